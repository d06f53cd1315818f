/-
  SEAT YteefekhlbillfaaDoor: Ze, of several texts.
-/
import Derived.Test.YteefekhlbillfaaDoorZc
import Derived.Test.YteefekhlbillfaaDoorZd
import Derived.Laws.CopyOwn
namespace Go.Proofs.YteefekhlbillfaaDoor
open Go.RowKit
set_option linter.unusedVariables false

theorem own_base {w : World} {B B' g n cap : Nat} {xs : List Int} (h : Own w B g n cap xs) (hb : B' ≤ B) : Own w B' g n cap xs := ownsRow_base h hb
theorem xor1 : ∀ z : Fin 256, bits .xor .u8 (bits .xor .u8 ((z.val : Nat) : Int) 1) 1 = ((z.val : Nat) : Int) ∧ bits .xor .u8 ((z.val : Nat) : Int) 1 ≠ ((z.val : Nat) : Int) ∧ 0 ≤ bits .xor .u8 ((z.val : Nat) : Int) 1 ∧ bits .xor .u8 ((z.val : Nat) : Int) 1 ≤ 255 := by decide +kernel
theorem xor1_of (z : Int) (h : 0 ≤ z ∧ z ≤ 255) : bits .xor .u8 (bits .xor .u8 z 1) 1 = z ∧ bits .xor .u8 z 1 ≠ z ∧ 0 ≤ bits .xor .u8 z 1 ∧ bits .xor .u8 z 1 ≤ 255 := by
  obtain ⟨k, rfl⟩ := Int.eq_ofNat_of_zero_le h.1
  exact xor1 ⟨k, by omega⟩
def zap (xs : List Int) : List Int := xs.set 0 (bits .xor .u8 (xs.getD 0 0) 1)
def flp (ms : List Bool) : List Bool := ms.set 0 (!ms.getD 0 false)
theorem zap_length (xs : List Int) : (zap xs).length = xs.length := by simp [zap]
theorem flp_length (ms : List Bool) : (flp ms).length = ms.length := by simp [flp]
theorem zap_cons (z : Int) (r : List Int) : zap (z :: r) = bits .xor .u8 z 1 :: r := rfl
theorem flp_cons (z : Bool) (r : List Bool) : flp (z :: r) = (!z) :: r := rfl
theorem zap_byt {xs : List Int} (h : Byt xs) : Byt (zap xs) := by
  cases xs with
  | nil => exact h
  | cons z r =>
    rw [zap_cons]
    intro x hx
    rcases List.mem_cons.1 hx with rfl | hx
    · exact (xor1_of z (h z List.mem_cons_self)).2.2
    · exact h x (List.mem_cons_of_mem _ hx)
theorem zap_zap {xs : List Int} (h : Byt xs) : zap (zap xs) = xs := by
  cases xs with
  | nil => rfl
  | cons z r => rw [zap_cons, zap_cons, (xor1_of z (h z List.mem_cons_self)).1]
theorem flp_flp (ms : List Bool) : flp (flp ms) = ms := by
  cases ms with
  | nil => rfl
  | cons z r => rw [flp_cons, flp_cons, Bool.not_not]
theorem zap_ne {xs : List Int} (h : Byt xs) (h0 : 0 < xs.length) : zap xs ≠ xs := by
  cases xs with
  | nil => simp at h0
  | cons z r =>
    rw [zap_cons]
    intro e
    exact (xor1_of z (h z List.mem_cons_self)).2.1 (List.cons.inj e).1
theorem zap_drop (xs : List Int) (k : Nat) (h : 0 < k) : (zap xs).drop k = xs.drop k := by
  cases xs with
  | nil => rfl
  | cons z r =>
    cases k with
    | zero => omega
    | succ k => rw [zap_cons]; rfl
theorem flp_getD (ms : List Bool) (k : Nat) (h : 0 < k) : (flp ms).getD k false = ms.getD k false := by
  cases ms with
  | nil => rfl
  | cons z r =>
    cases k with
    | zero => omega
    | succ k => rw [flp_cons]; rfl
theorem dfL_one {xs : List Int} {ms : List Bool} {L b p : Nat} (hb : 0 < b) (hp : 0 < p) (hL : 0 < L) (hx : xs.length = b * p * L) (hm : ms.length = b) (hby : Byt xs) : dfL (zap xs) xs (flp ms) ms L p (b * p) = [⟨0, -1⟩, ⟨0, 0⟩] := by
  have hbp : 0 < b * p := Nat.mul_pos hb hp
  obtain ⟨N, hN⟩ : ∃ N, b * p = N + 1 := ⟨b * p - 1, by omega⟩
  have hx0 : 0 < xs.length := by rw [hx]; exact Nat.mul_pos hbp hL
  unfold dfL
  rw [hN, List.range_succ_eq_map, List.flatMap_cons]
  have h0 : dfN (zap xs) xs (flp ms) ms L p 0 = [⟨0, -1⟩, ⟨0, 0⟩] := by
    unfold dfN
    rw [if_pos, if_neg]
    · simp
    · cases xs with
      | nil => simp at hx0
      | cons z r =>
        obtain ⟨L', hL'⟩ : ∃ L', L = L' + 1 := ⟨L - 1, by omega⟩
        unfold pgK
        rw [zap_cons, hL']
        simp
        exact (xor1_of z (hby z List.mem_cons_self)).2.1
    · cases ms with
      | nil => simp at hm; omega
      | cons z r => rw [flp_cons]; simp
  have h1 : ((List.range N).map Nat.succ).flatMap (dfN (zap xs) xs (flp ms) ms L p) = [] := by
    rw [List.flatMap_eq_nil_iff]
    intro k hk
    obtain ⟨j, _, rfl⟩ := List.mem_map.1 hk
    unfold dfN
    rw [if_neg, if_pos]
    · rfl
    · unfold pgK
      rw [zap_drop _ _ (Nat.mul_pos (Nat.succ_pos j) hL)]
    · rintro ⟨h2, h3⟩
      apply h3
      refine flp_getD ms _ (Nat.div_pos ?_ hp)
      exact Nat.le_of_dvd (Nat.succ_pos j) (Nat.dvd_of_mod_eq_zero h2)
  rw [h0, h1]
  rfl
theorem info5s : (Tryd.prog.info? 5).map (·.size) = some 1 := by kernel_rfl
theorem ints_one (xs : List Int) : ∀ u ∈ xs.map (Value.int .u8), u.oneCell' = true := by intro u hu; obtain ⟨z, _, rfl⟩ := List.mem_map.1 hu; rfl
/-- copy over a whole row. -/
theorem run_copy_all {w : World} (ty : TypeId) (B g n cap c : Nat) (xs zs : List Int) (ad : Addr)
    (hown : w.ownsRow B 5 1 (.slice (some ⟨g, 0, none⟩) n cap) n (xs.map (Value.int .u8))) (hrd : Reads w (some ad) n zs) :
    ∃ w', (Builtin.copy_ #[22, 22] ty #[.slice (some ⟨g, 0, none⟩) n cap, .slice (some ad) n c]).run Tryd.prog w = .ok (goInt n) w' ∧ w'.ownsRow B 5 1 (.slice (some ⟨g, 0, none⟩) n cap) n (zs.map (Value.int .u8)) ∧ w.grownBy w' (some g) := by
  have hzl := hrd.1
  rcases hown.2 with ⟨h0, _⟩ | ⟨g', cap', cur, hv, hB, hg, hnc, hcm, hcs, htk⟩
  · cases h0
  · cases hv
    have key := run_copy_row (P := Tryd.prog) w 22 22 ty 5 g 0 n cap ad n c cur 5 (zs.map (Value.int .u8)) Tryd.underlying22 info5s hg (by simp [hzl]) hrd.news (by simp [hzl]; omega) (ints_one _)
    simp only [List.length_map, hzl, List.take_zero, List.nil_append, Nat.zero_add] at key
    refine ⟨_, key, ⟨by simp [hzl], Or.inr ⟨g, cap, _, rfl, hB, setRow_heap w g cur _ 5 (0, 0) hg, hnc, hcm, ?_, ?_⟩⟩, ⟨rfl, rfl, rfl, by simp, fun k hk hne => setRow_other w g k _ (fun e => hne (by rw [e]))⟩⟩
    · simp [hzl, hcs]; omega
    · simp only [Nat.mul_one]
      rw [List.take_left' (by simp [hzl])]
theorem wpList_copy_all {w : World} {ops : Array Oper} {rest : List Oper} {o : Oper} {a : Act} {Q : Exit → Act → World → Prop} (hgd : o.guard = none) (s x : Operand)
    (ho : o.op = .call { callee := .builtin .copy, args := #[s, x], argTypes := #[22, 22] }) (B g n cap c : Nat) (xs zs : List Int) (ad : Addr)
    (hs : a.eval s = .slice (some ⟨g, 0, none⟩) n cap) (hx : a.eval x = .slice (some ad) n c)
    (hown : w.ownsRow B 5 1 (.slice (some ⟨g, 0, none⟩) n cap) n (xs.map (Value.int .u8))) (hrd : Reads w (some ad) n zs)
    (h : ∀ w', w'.ownsRow B 5 1 (.slice (some ⟨g, 0, none⟩) n cap) n (zs.map (Value.int .u8)) → w.grownBy w' (some g) → wpList Tryd.prog ops Q rest (a.put o.dst (goInt n)) w') : wpList Tryd.prog ops Q (o :: rest) a w := by
  obtain ⟨w', hr, h1, h2⟩ := run_copy_all o.type B g n cap c xs zs ad hown hrd
  refine wpList_plain hgd fun K hK => ?_
  unfold Oper.wp
  simp [execOp, ho, resolve, invoke, builtin, hs, hx, hr, Result.andThen]
  exact hK _ _ (h w' h1 h2)

/-- What stands while the image a is changed in its place. -/
structure Pst (u : World) (B b p s g n cc gm cm bk off c mb mo c' : Nat) (zs : List Int) (ms : List Bool) (W : World) (cur : List Int) (curm : List Bool) : Prop where
  bel : Below B u W
  sz : u.heap.size + 2 ≤ W.heap.size
  ac : Own W B g n cc cur
  am : OwnB W B gm b cm curm
  mr : Reads W (some ⟨bk, off, none⟩) n zs
  rdm : ReadsB W (some ⟨mb, mo, none⟩) b ms
  ba : W.heap[u.heap.size]? = some (.cells #[.int .i64 (b : Int), .int .i64 (p : Int), .int .i64 (s : Int), .slice (some ⟨g, 0, none⟩) n cc, .slice (some ⟨gm, 0, none⟩) b cm] 30 (0, 0))
  bm : W.heap[u.heap.size + 1]? = some (.cells #[.int .i64 (b : Int), .int .i64 (p : Int), .int .i64 (s : Int), .slice (some ⟨bk, off, none⟩) n c, .slice (some ⟨mb, mo, none⟩) b c'] 30 (0, 0))
  lo : g < u.heap.size ∧ gm < u.heap.size ∧ bk < u.heap.size ∧ mb < u.heap.size ∧ bk ≠ g ∧ bk ≠ gm ∧ mb ≠ g ∧ mb ≠ gm ∧ g ≠ gm ∧ B ≤ u.heap.size
theorem Pst.up {u : World} {B b p s g n cc gm cm bk off c mb mo c' : Nat} {zs : List Int} {ms : List Bool} {W W' : World} {cur : List Int} {curm : List Bool} (h : Pst u B b p s g n cc gm cm bk off c mb mo c' zs ms W cur curm) (hb : Below W.heap.size W W') : Pst u B b p s g n cc gm cm bk off c mb mo c' zs ms W' cur curm := by
  obtain ⟨h1, h2, h3, h4, h5, h6, h7, h8, h9⟩ := h
  exact ⟨h1.trans (hb.mono (by omega)), Nat.le_trans h2 hb.size, h3.below hb, h4.below hb, h5.below hb, h6.below hb, (hb.block _ (lt_of_b h7)).trans h7, (hb.block _ (lt_of_b h8)).trans h8, h9⟩
theorem reads_other {W W' : World} {q bk off n : Nat} {zs : List Int} (h : Reads W (some ⟨bk, off, none⟩) n zs) (hg : W.grownBy W' (some q)) (hne : bk ≠ q) : Reads W' (some ⟨bk, off, none⟩) n zs := by
  obtain ⟨h1, h2, h3, h4⟩ := h
  refine ⟨h1, h2, h3, fun x hx i hi => ?_⟩
  have h5 := h4 x hx i hi
  cases hx
  rw [plain_add] at h5 ⊢
  rw [World.cell?_of_block (hg.block bk (block_lt_of_cell h5) (fun e => hne (Option.some.inj e)))]
  exact h5
theorem readsB_other {W W' : World} {q bk off n : Nat} {zs : List Bool} (h : ReadsB W (some ⟨bk, off, none⟩) n zs) (hg : W.grownBy W' (some q)) (hne : bk ≠ q) : ReadsB W' (some ⟨bk, off, none⟩) n zs := by
  obtain ⟨h1, h3, h4⟩ := h
  refine ⟨h1, h3, fun x hx i hi => ?_⟩
  have h5 := h4 x hx i hi
  cases hx
  rw [plain_add] at h5 ⊢
  rw [World.cell?_of_block (hg.block bk (block_lt_of_cell h5) (fun e => hne (Option.some.inj e)))]
  exact h5
/-- A block that is neither the image's nor its boxes' is changed. -/
theorem Pst.other {u : World} {B b p s g n cc gm cm bk off c mb mo c' : Nat} {zs : List Int} {ms : List Bool} {W W' : World} {cur : List Int} {curm : List Bool} {q : Nat} (h : Pst u B b p s g n cc gm cm bk off c mb mo c' zs ms W cur curm) (hg : W.grownBy W' (some q)) (hq : u.heap.size + 2 ≤ q) : Pst u B b p s g n cc gm cm bk off c mb mo c' zs ms W' cur curm := by
  obtain ⟨h1, h2, h3, h4, h5, h6, h7, h8, h9⟩ := h
  refine ⟨h1.grown hg (by omega) (fun i hi => by cases hi; omega), Nat.le_trans h2 hg.size, World.ownsRow.kept h3 hg (Or.inr (fun e => ?_)), World.ownsRow.kept h4 hg (Or.inr (fun e => ?_)), reads_other h5 hg (by omega), readsB_other h6 hg (by omega), (hg.block _ (lt_of_b h7) (fun e => by have := Option.some.inj e; omega)).trans h7, (hg.block _ (lt_of_b h8) (fun e => by have := Option.some.inj e; omega)).trans h8, h9⟩
  · have e9 : g = q := Option.some.inj e
    omega
  · have e9 : gm = q := Option.some.inj e
    omega
theorem Pst.cell {u : World} {B b p s g n cc gm cm bk off c mb mo c' : Nat} {zs : List Int} {ms : List Bool} {W W' : World} {cur cur' : List Int} {curm : List Bool} (h : Pst u B b p s g n cc gm cm bk off c mb mo c' zs ms W cur curm) (hg : W.grownBy W' (some g)) (ho : Own W' B g n cc cur') : Pst u B b p s g n cc gm cm bk off c mb mo c' zs ms W' cur' curm := by
  obtain ⟨h1, h2, h3, h4, h5, h6, h7, h8, h9⟩ := h
  have hBg := h3.lt.1
  refine ⟨h1.grown hg (by omega) (fun i hi => by cases hi; exact hBg), Nat.le_trans h2 hg.size, ho, World.ownsRow.kept h4 hg (Or.inr (fun e => ?_)), reads_other h5 hg (by omega), readsB_other h6 hg (by omega), (hg.block _ (lt_of_b h7) (fun e => by have := Option.some.inj e; omega)).trans h7, (hg.block _ (lt_of_b h8) (fun e => by have := Option.some.inj e; omega)).trans h8, h9⟩
  have e9 : gm = g := Option.some.inj e
  omega
theorem Pst.mark {u : World} {B b p s g n cc gm cm bk off c mb mo c' : Nat} {zs : List Int} {ms : List Bool} {W W' : World} {cur : List Int} {curm curm' : List Bool} (h : Pst u B b p s g n cc gm cm bk off c mb mo c' zs ms W cur curm) (hg : W.grownBy W' (some gm)) (ho : OwnB W' B gm b cm curm') : Pst u B b p s g n cc gm cm bk off c mb mo c' zs ms W' cur curm' := by
  obtain ⟨h1, h2, h3, h4, h5, h6, h7, h8, h9⟩ := h
  have hBg := (World.ownsRow.lt h4 gm rfl).1
  refine ⟨h1.grown hg (by omega) (fun i hi => by cases hi; exact hBg), Nat.le_trans h2 hg.size, World.ownsRow.kept h3 hg (Or.inr (fun e => ?_)), ho, reads_other h5 hg (by omega), readsB_other h6 hg (by omega), (hg.block _ (lt_of_b h7) (fun e => by have := Option.some.inj e; omega)).trans h7, (hg.block _ (lt_of_b h8) (fun e => by have := Option.some.inj e; omega)).trans h8, h9⟩
  have e9 : g = gm := Option.some.inj e
  omega
theorem own_ge {W : World} {B g n cc : Nat} {xs : List Int} (h : Own W B g n cc xs) (h0 : 0 < n) : n ≤ cc ∧ cc ≤ 9223372036854775807 := by
  obtain ⟨g', c', h1, h2, h3, _⟩ := own_shape h h0
  cases h1
  unfold maxLen at h3
  omega
theorem ownB_all {W : World} {B g n cc : Nat} {xs : List Bool} (h : OwnB W B g n cc xs) : ReadsB W (some ⟨g, 0, none⟩) n xs := by
  have h1 := h.reads n (Nat.le_refl _)
  rwa [List.take_of_length_le (by rw [h.len]; exact Nat.le_refl _)] at h1
theorem own_le {W : World} {B g n cc : Nat} {xs : List Int} (h : Own W B g n cc xs) : n ≤ cc ∧ cc ≤ 9223372036854775807 := by
  rcases h.2 with ⟨h0, _⟩ | ⟨g', cap', cur, hv, hB, hg, hnc, hcm, _⟩
  · cases h0
  · cases hv
    unfold maxLen at hcm
    omega
theorem packs_st {u : World} {B b p s g n cc gm cm bk off c mb mo c' : Nat} {zs : List Int} {ms : List Bool} {W : World} {cur : List Int} {curm : List Bool} (hst : Pst u B b p s g n cc gm cm bk off c mb mo c' zs ms W cur curm) (hM : Img.Ok ⟨b, p, s, cur, curm⟩) (ht : Tab W) (P : List Int) (hP : packL ⟨b, p, s, cur, curm⟩ = P) (K : Nat) (hK : P.length = K) :
    Calls Tryd.prog 16 #[.agg #[.int .i64 (b : Int), .int .i64 (p : Int), .int .i64 (s : Int), .slice (some ⟨g, 0, none⟩) n cc, .slice (some ⟨gm, 0, none⟩) b cm]] W fun e w' => ∃ g1 c1, e = .returned (.tuple #[.slice (some ⟨g1, 0, none⟩) K c1, .int .i64 0]) ∧ Own w' W.heap.size g1 K c1 P ∧ Below W.heap.size W w' := by
  subst hP
  subst hK
  exact pack_ok ⟨b, p, s, cur, curm⟩ g 0 n cc (some ⟨gm, 0, none⟩) b cm W hM (hst.ac.all hM.2.2.2) (ownB_all hst.am) hst.ac.lt.2 (own_le hst.ac).1 (own_le hst.ac).2 ht
theorem reads_row {b p s n K : Nat} {cur : List Int} {curm : List Bool} {P : List Int} (hM : Img.Ok ⟨b, p, s, cur, curm⟩) (hP : packL ⟨b, p, s, cur, curm⟩ = P) (hK : P.length = K) (hn : cur.length = n) {W : World} {B' g2 c2 : Nat} (ho : Own W B' g2 K c2 P) (ht : Tab W) :
    Calls Tryd.prog 9 #[.slice (some ⟨g2, 0, none⟩) K c2] W fun e w' => ∃ x1 x2 x3, e = .returned (.tuple #[.agg #[.int .i64 (b : Int), .int .i64 (p : Int), .int .i64 (s : Int), .slice (some ⟨x1, 0, none⟩) n x2, .slice (some ⟨x3, 0, none⟩) b b], .int .i64 0]) ∧ Own w' W.heap.size x1 n x2 cur ∧ OwnB w' W.heap.size x3 b b curm ∧ Below W.heap.size W w' := by
  have hby : Byt P := by rw [← hP]; exact pack_byt _ hM
  have hle : K ≤ 900000000 := by rw [← hK, ← hP]; exact pack_len _ hM
  refine (read_n g2 0 K c2 P W hK (ho.all hby) (by omega) (own_le ho).1 (own_le ho).2 ho.lt.2 ht).mono ?_
  rintro e w' ⟨h, hb⟩
  rw [← hP, back _ hM] at h
  obtain ⟨x1, x2, x3, he, h1, h2⟩ := h
  simp only [hn] at he h1
  exact ⟨x1, x2, x3, he, h1, h2, hb⟩
theorem diff_st {u : World} {B b p s g n cc gm cm bk off c mb mo c' : Nat} {zs : List Int} {ms : List Bool} {W : World} (hst : Pst u B b p s g n cc gm cm bk off c mb mo c' zs ms W (zap zs) (flp ms)) (hM : Img.Ok ⟨b, p, s, zs, ms⟩) (hn : zs.length = n) (hc : n ≤ c ∧ c ≤ 9223372036854775807) :
    Calls Tryd.prog 19 #[.agg #[.int .i64 (b : Int), .int .i64 (p : Int), .int .i64 (s : Int), .slice (some ⟨g, 0, none⟩) n cc, .slice (some ⟨gm, 0, none⟩) b cm], .agg #[.int .i64 (b : Int), .int .i64 (p : Int), .int .i64 (s : Int), .slice (some ⟨bk, off, none⟩) n c, .slice (some ⟨mb, mo, none⟩) b c']] W fun e w' => ∃ a9 c9, e = .returned (.tuple #[.slice a9 2 c9, .int .i64 0]) ∧ ReadsP w' a9 2 [⟨0, -1⟩, ⟨0, 0⟩] ∧ Below W.heap.size W w' := by
  have hf : Fits (b : Int) (p : Int) (s : Int) = true := hM.1
  obtain ⟨q1, q2, q3, q4, q5, q6, q7⟩ := fits_nat hf
  have hL : zs.length = b * p * (256 * s + (54 + 3 * s)) := hM.2.1
  have hone := dfL_one (xs := zs) (ms := ms) (L := 256 * s + (54 + 3 * s)) (b := b) (p := p) (by omega) (by omega) (by omega) hL hM.2.2.1 hM.2.2.2
  refine (diff_ok b p s g 0 n cc (some ⟨gm, 0, none⟩) b cm bk off c (some ⟨mb, mo, none⟩) c' (zap zs) zs (flp ms) ms (b * p) (256 * s + (54 + 3 * s)) W hM.1 (chk_ok hM hn.symm hM.2.2.1.symm) rfl rfl (by rw [← hn]; exact hL) rfl (hst.ac.all (zap_byt hM.2.2.2)) hst.mr (ownB_all hst.am) hst.rdm (own_le hst.ac).1 (own_le hst.ac).2 hc.1 hc.2).mono ?_
  rintro e w' ⟨v, he, ho, hb⟩
  rw [hone] at ho
  obtain ⟨a9, c9, hv, hr⟩ := ownP_reads ho
  subst hv
  exact ⟨a9, c9, he, hr, hb⟩
theorem ok_zap {b p s : Nat} {zs : List Int} {ms : List Bool} (hM : Img.Ok ⟨b, p, s, zs, ms⟩) : Img.Ok ⟨b, p, s, zap zs, flp ms⟩ := ⟨hM.1, (zap_length zs).trans hM.2.1, (flp_length ms).trans hM.2.2.1, zap_byt hM.2.2.2⟩
theorem places_lit (w : World) : ReadsP (w.alloc (.cells #[.int .i64 0, .int .i64 (-1), .int .i64 0, .int .i64 0] 40)) (some ⟨w.heap.size, 0, none⟩) 2 [⟨0, -1⟩, ⟨0, 0⟩] := by
  refine ⟨rfl, (fun h => by cases h), fun x hx i hi j hj => ?_⟩
  cases hx
  rw [plain_add, Nat.zero_add]
  have h9 := heap_alloc_new w (.cells #[.int .i64 0, .int .i64 (-1), .int .i64 0, .int .i64 0] 40)
  simp only [World.cell?, h9]
  match i, hi, j, hj with
  | 0, _, 0, _ => rfl
  | 0, _, 1, _ => rfl
  | 1, _, 0, _ => rfl
  | 1, _, 1, _ => rfl
theorem pst_start (u : World) (B b p s g n cc gm cm bk off c mb mo c' : Nat) (zs : List Int) (ms : List Bool) (hac : Own u B g n cc zs) (ham : OwnB u B gm b cm ms) (hmr : Reads u (some ⟨bk, off, none⟩) n zs) (hmb : ReadsB u (some ⟨mb, mo, none⟩) b ms) (hlo : g < u.heap.size ∧ gm < u.heap.size ∧ bk < u.heap.size ∧ mb < u.heap.size ∧ bk ≠ g ∧ bk ≠ gm ∧ mb ≠ g ∧ mb ≠ gm ∧ g ≠ gm ∧ B ≤ u.heap.size) :
    Pst u B b p s g n cc gm cm bk off c mb mo c' zs ms ((u.alloc (.cells #[.int .i64 (b : Int), .int .i64 (p : Int), .int .i64 (s : Int), .slice (some ⟨g, 0, none⟩) n cc, .slice (some ⟨gm, 0, none⟩) b cm] 30)).alloc (.cells #[.int .i64 (b : Int), .int .i64 (p : Int), .int .i64 (s : Int), .slice (some ⟨bk, off, none⟩) n c, .slice (some ⟨mb, mo, none⟩) b c'] 30)) zs ms := by
  have hb : Below u.heap.size u ((u.alloc (.cells #[.int .i64 (b : Int), .int .i64 (p : Int), .int .i64 (s : Int), .slice (some ⟨g, 0, none⟩) n cc, .slice (some ⟨gm, 0, none⟩) b cm] 30)).alloc (.cells #[.int .i64 (b : Int), .int .i64 (p : Int), .int .i64 (s : Int), .slice (some ⟨bk, off, none⟩) n c, .slice (some ⟨mb, mo, none⟩) b c'] 30)) := below_trans (below_alloc u _) (below_alloc _ _)
  refine ⟨hb.mono hlo.2.2.2.2.2.2.2.2.2, by simp, hac.below hb, ham.below hb, hmr.below hb, hmb.below hb, (Below.heap_alloc _ _ _ (by simp)).trans (heap_alloc_new u _), ?_, hlo⟩
  have h9 := heap_alloc_new (u.alloc (.cells #[.int .i64 (b : Int), .int .i64 (p : Int), .int .i64 (s : Int), .slice (some ⟨g, 0, none⟩) n cc, .slice (some ⟨gm, 0, none⟩) b cm] 30)) (.cells #[.int .i64 (b : Int), .int .i64 (p : Int), .int .i64 (s : Int), .slice (some ⟨bk, off, none⟩) n c, .slice (some ⟨mb, mo, none⟩) b c'] 30)
  rw [World.size_alloc] at h9
  exact h9
theorem Pst.drew {u : World} {B b p s g n cc gm cm bk off c mb mo c' : Nat} {zs : List Int} {ms : List Bool} {W : World} {cur : List Int} {curm : List Bool} (h : Pst u B b p s g n cc gm cm bk off c mb mo c' zs ms W cur curm) : Pst u B b p s g n cc gm cm bk off c mb mo c' zs ms W.drew cur curm := h.up (Below.refl _ _).drew
theorem own_set0 {W : World} {B g n cc : Nat} {xs : List Int} (h : Own W B g n cc xs) (z : Int) (hz : xs.getD 0 0 = z) : Own (W.setCell ⟨g, 0, none⟩ (.int .u8 (bits .xor .u8 z 1))) B g n cc (zap xs) := by
  have h1 := (h.set 0 (bits .xor .u8 z 1)).1
  rw [← hz] at h1 ⊢
  exact h1
theorem ownB_set0 {W : World} {B g n cc : Nat} {xs : List Bool} (h : OwnB W B g n cc xs) (z : Bool) (hz : xs.getD 0 false = z) : OwnB (W.setCell ⟨g, 0, none⟩ (.bool (!z))) B g n cc (flp xs) := by
  have h1 := (World.ownsRow.stored h 0 (.bool (!z))).1
  rw [← List.map_set, ← hz] at h1
  rw [← hz]
  exact h1

set_option maxHeartbeats 8000000 in
set_option maxRecDepth 100000 in
theorem placed_ne (u : World) (B b p s g n cc gm cm bk off c mb mo c' : Nat) (zs : List Int) (ms : List Bool) (hM : Img.Ok ⟨b, p, s, zs, ms⟩) (hzn : zs.length = n) (hac : Own u B g n cc zs) (ham : OwnB u B gm b cm ms) (hmr : Reads u (some ⟨bk, off, none⟩) n zs) (hmb : ReadsB u (some ⟨mb, mo, none⟩) b ms) (hlo : g < u.heap.size ∧ gm < u.heap.size ∧ bk < u.heap.size ∧ mb < u.heap.size ∧ bk ≠ g ∧ bk ≠ gm ∧ mb ≠ g ∧ mb ≠ gm ∧ g ≠ gm ∧ B ≤ u.heap.size) (hcc : n ≤ c ∧ c ≤ 9223372036854775807) (hT : ∀ W, Below B u W → Tab W)
    (P1 P2 : List Int) (K1 K2 : Nat) (hP1 : packL ⟨b, p, s, zs, ms⟩ = P1) (hP2 : packL ⟨b, p, s, zap zs, flp ms⟩ = P2) (hK1 : P1.length = K1) (hK2 : P2.length = K2) (hKp : 0 < K2 ∧ K2 ≤ 900000000) (hKK : K2 ≠ K1) :
    Calls Tryd.prog 24 #[.agg #[.int .i64 (b : Int), .int .i64 (p : Int), .int .i64 (s : Int), .slice (some ⟨g, 0, none⟩) n cc, .slice (some ⟨gm, 0, none⟩) b cm], .agg #[.int .i64 (b : Int), .int .i64 (p : Int), .int .i64 (s : Int), .slice (some ⟨bk, off, none⟩) n c, .slice (some ⟨mb, mo, none⟩) b c']] u fun e w' => e = .returned (.bool true) ∧ Below B u w' := by
  have hM2 := ok_zap hM
  have hzn2 : (zap zs).length = n := (zap_length zs).trans hzn
  have hby1 : Byt P1 := by rw [← hP1]; exact pack_byt _ hM
  have hf : Fits (b : Int) (p : Int) (s : Int) = true := hM.1
  have hq := fits_nat hf
  clear hf
  have hL : zs.length = b * p * (256 * s + (54 + 3 * s)) := hM.2.1
  have hn0 : 0 < n := by rw [← hzn, hL]; exact Nat.mul_pos (Nat.mul_pos (by omega) (by omega)) (by omega)
  have hb0 : 0 < b := by omega
  have hbb : b ≤ 4096 := by omega
  clear hq hL
  have HT : Hid (∀ W, Below B u W → Tab W) := hT
  clear hT
  have HPS : Hid (Pst u B b p s g n cc gm cm bk off c mb mo c' zs ms ((u.alloc (.cells #[.int .i64 (b : Int), .int .i64 (p : Int), .int .i64 (s : Int), .slice (some ⟨g, 0, none⟩) n cc, .slice (some ⟨gm, 0, none⟩) b cm] 30)).alloc (.cells #[.int .i64 (b : Int), .int .i64 (p : Int), .int .i64 (s : Int), .slice (some ⟨bk, off, none⟩) n c, .slice (some ⟨mb, mo, none⟩) b c'] 30)) zs ms) := pst_start u B b p s g n cc gm cm bk off c mb mo c' zs ms hac ham hmr hmb hlo
  clear hac ham hmr hmb
  obtain ⟨i0, hi, hz0, hz1, hz2⟩ := info_parts info5
  go_enter Tryd.func24, Tryd.ntmps24
  have ka := cells5 HPS.out.ba
  obtain ⟨a0, a1, a2, a3, a4⟩ := ka
  go_upto_region 2 with (first
    | (go_at_call 16; refine (packs_st HPS.out hM (HT.out _ HPS.out.bel) P1 hP1 K1 hK1).mono ?_; rintro e t1 ⟨g1, c1, rfl, h9, bl⟩
       have HS1 : Hid (Pst u B b p s g n cc gm cm bk off c mb mo c' zs ms t1 zs ms) := HPS.out.up bl
       have F1 : Hid (Own t1 (u.heap.size + 2) g1 K1 c1 P1) := own_base h9 HPS.out.sz
       clear h9 bl a0 a1 a2 a3 a4 HPS))
  obtain ⟨z2, hz2⟩ : ∃ z, (zs).getD 0 0 = z := ⟨_, rfl⟩
  have x1 : t1.cell? ⟨u.heap.size, 3, none⟩ = some (.slice (some ⟨g, 0, none⟩) n cc) := (cells5 HS1.out.ba).2.2.2.1
  have x2 : t1.cell? ⟨g, 0, none⟩ = some (.int .u8 z2) := by rw [← hz2]; exact HS1.out.ac.cell 0 hn0
  have x3 : t1.frozen? ⟨g, 0, none⟩ = false := World.ownsRow.frozenAt HS1.out.ac 0
  have HS2 : Hid (Pst u B b p s g n cc gm cm bk off c mb mo c' zs ms (t1.setCell ⟨g, 0, none⟩ (.int .u8 (bits .xor .u8 z2 1))).drew (zap zs) ms) := (HS1.out.cell (set_grown _ _ _ _) (own_set0 HS1.out.ac z2 hz2)).drew
  have F1n : Hid (Own (t1.setCell ⟨g, 0, none⟩ (.int .u8 (bits .xor .u8 z2 1))).drew (u.heap.size + 2) g1 K1 c1 P1) := World.ownsRow.drew (World.ownsRow.kept F1.out (set_grown _ _ _ _) (Or.inr (fun e9 => by have e8 : g1 = g := Option.some.inj e9; have h7 := F1.out.lt.1; have h6 := HS1.out.lo; omega)))
  clear hz2 HS1 F1
  go_region
  obtain ⟨r2, hr2⟩ : ∃ X, (t1.setCell ⟨g, 0, none⟩ (.int .u8 (bits .xor .u8 z2 1))).drew = X := ⟨_, rfl⟩
  rw [hr2] at HS2 F1n ⊢
  clear hr2 x1 x2 x3
  have F1 := F1n
  clear F1n
  go_upto_region 3 with fail
  obtain ⟨z3, hz3⟩ : ∃ z, (ms).getD 0 false = z := ⟨_, rfl⟩
  have x1 : r2.cell? ⟨u.heap.size, 4, none⟩ = some (.slice (some ⟨gm, 0, none⟩) b cm) := (cells5 HS2.out.ba).2.2.2.2
  have x2 : r2.cell? ⟨gm, 0, none⟩ = some (.bool z3) := by rw [← hz3]; exact HS2.out.am.cell 0 hb0
  have x3 : r2.frozen? ⟨gm, 0, none⟩ = false := World.ownsRow.frozenAt HS2.out.am 0
  have HS3 : Hid (Pst u B b p s g n cc gm cm bk off c mb mo c' zs ms (r2.setCell ⟨gm, 0, none⟩ (.bool (!z3))).drew (zap zs) (flp ms)) := (HS2.out.mark (set_grown _ _ _ _) (ownB_set0 HS2.out.am z3 hz3)).drew
  have F1n : Hid (Own (r2.setCell ⟨gm, 0, none⟩ (.bool (!z3))).drew (u.heap.size + 2) g1 K1 c1 P1) := World.ownsRow.drew (World.ownsRow.kept F1.out (set_grown _ _ _ _) (Or.inr (fun e9 => by have e8 : g1 = gm := Option.some.inj e9; have h7 := F1.out.lt.1; have h6 := HS2.out.lo; omega)))
  clear hz3 HS2 F1
  go_region
  obtain ⟨r3, hr3⟩ : ∃ X, (r2.setCell ⟨gm, 0, none⟩ (.bool (!z3))).drew = X := ⟨_, rfl⟩
  rw [hr3] at HS3 F1n ⊢
  clear hr3 x1 x2 x3
  have F1 := F1n
  clear F1n
  obtain ⟨a0, a1, a2, a3, a4⟩ := cells5 HS3.out.ba
  have TR : Hid True := trivial
  have TA : Hid True := trivial
  go_upto_region 11 with (first
    | (go_at_call 16; refine (packs_st HS3.out hM2 (HT.out _ HS3.out.bel) P2 hP2 K2 hK2).mono ?_; rintro e t4 ⟨g2, c2, rfl, h9, bl⟩
       have HS4 : Hid (Pst u B b p s g n cc gm cm bk off c mb mo c' zs ms t4 (zap zs) (flp ms)) := HS3.out.up bl
       have F1x : Hid (Own t4 (u.heap.size + 2) g1 K1 c1 P1) := F1.out.below bl
       clear F1
       have F1 := F1x
       clear F1x
       have F2 : Hid (Own t4 (u.heap.size + 2) g2 K2 c2 P2) := own_base h9 HS3.out.sz
       clear h9 bl a0 a1 a2 a3 a4 HS3)
    | (go_at_call 9; refine (reads_row hM2 hP2 hK2 hzn2 F2.out (HT.out _ HS4.out.bel)).mono ?_; rintro e t5 ⟨x1, x2, x3, rfl, h8, h7, bl⟩
       have bl2 : Below t4.heap.size t4 (t5.alloc (.cells #[.int .i64 (b : Int), .int .i64 (p : Int), .int .i64 (s : Int), .slice (some ⟨x1, 0, none⟩) n x2, .slice (some ⟨x3, 0, none⟩) b b] 30)) := below_trans bl (below_alloc _ _)
       have HS5 : Hid (Pst u B b p s g n cc gm cm bk off c mb mo c' zs ms (t5.alloc (.cells #[.int .i64 (b : Int), .int .i64 (p : Int), .int .i64 (s : Int), .slice (some ⟨x1, 0, none⟩) n x2, .slice (some ⟨x3, 0, none⟩) b b] 30)) (zap zs) (flp ms)) := HS4.out.up bl2
       have F1x : Hid (Own (t5.alloc (.cells #[.int .i64 (b : Int), .int .i64 (p : Int), .int .i64 (s : Int), .slice (some ⟨x1, 0, none⟩) n x2, .slice (some ⟨x3, 0, none⟩) b b] 30)) (u.heap.size + 2) g1 K1 c1 P1) := F1.out.below bl2
       clear F1
       have F1 := F1x
       clear F1x
       have F2x : Hid (Own (t5.alloc (.cells #[.int .i64 (b : Int), .int .i64 (p : Int), .int .i64 (s : Int), .slice (some ⟨x1, 0, none⟩) n x2, .slice (some ⟨x3, 0, none⟩) b b] 30)) (u.heap.size + 2) g2 K2 c2 P2) := F2.out.below bl2
       clear F2
       have F2 := F2x
       clear F2x
       have HX1 : Hid (Reads (t5.alloc (.cells #[.int .i64 (b : Int), .int .i64 (p : Int), .int .i64 (s : Int), .slice (some ⟨x1, 0, none⟩) n x2, .slice (some ⟨x3, 0, none⟩) b b] 30)) (some ⟨x1, 0, none⟩) n (zap zs)) := (h8.all (zap_byt hM.2.2.2)).below (below_alloc _ _)
       have HX2 : Hid (ReadsB (t5.alloc (.cells #[.int .i64 (b : Int), .int .i64 (p : Int), .int .i64 (s : Int), .slice (some ⟨x1, 0, none⟩) n x2, .slice (some ⟨x3, 0, none⟩) b b] 30)) (some ⟨x3, 0, none⟩) b (flp ms)) := (ownB_all h7).below (below_alloc _ _)
       have HXB : Hid ((t5.alloc (.cells #[.int .i64 (b : Int), .int .i64 (p : Int), .int .i64 (s : Int), .slice (some ⟨x1, 0, none⟩) n x2, .slice (some ⟨x3, 0, none⟩) b b] 30)).heap[t5.heap.size]? = some (.cells #[.int .i64 (b : Int), .int .i64 (p : Int), .int .i64 (s : Int), .slice (some ⟨x1, 0, none⟩) n x2, .slice (some ⟨x3, 0, none⟩) b b] 30 (0, 0))) := heap_alloc_new _ _
       obtain ⟨a0, a1, a2, a3, a4⟩ := cells5 HS5.out.ba
       obtain ⟨m0, m1, m2, m3, m4⟩ := cells5 HS5.out.bm
       clear h8 h7 bl bl2 HS4)
    | (go_at_call 19; refine (diff_st HS5.out hM hzn hcc).mono ?_; rintro e t6 ⟨a9, c9, rfl, hpl, bl⟩
       have HS6 : Hid (Pst u B b p s g n cc gm cm bk off c mb mo c' zs ms t6 (zap zs) (flp ms)) := HS5.out.up bl
       have F1x : Hid (Own t6 (u.heap.size + 2) g1 K1 c1 P1) := F1.out.below bl
       clear F1
       have F1 := F1x
       clear F1x
       have F2x : Hid (Own t6 (u.heap.size + 2) g2 K2 c2 P2) := F2.out.below bl
       clear F2
       have F2 := F2x
       clear F2x
       have HX1x : Hid (Reads t6 (some ⟨x1, 0, none⟩) n (zap zs)) := HX1.out.below bl
       have HX2x : Hid (ReadsB t6 (some ⟨x3, 0, none⟩) b (flp ms)) := HX2.out.below bl
       have HXBx : Hid (t6.heap[t5.heap.size]? = some (.cells #[.int .i64 (b : Int), .int .i64 (p : Int), .int .i64 (s : Int), .slice (some ⟨x1, 0, none⟩) n x2, .slice (some ⟨x3, 0, none⟩) b b] 30 (0, 0))) := (bl.block _ (lt_of_b HXB.out)).trans HXB.out
       have HPL : Hid (ReadsP t6 a9 2 [⟨0, -1⟩, ⟨0, 0⟩]) := hpl
       clear a0 a1 a2 a3 a4 m0 m1 m2 m3 m4
       obtain ⟨a0, a1, a2, a3, a4⟩ := cells5 HS6.out.ba
       obtain ⟨y0, y1, y2, y3, y4⟩ := cells5 HXBx.out
       clear bl HS5 hpl HX1 HX2 HXB
       have T1 : Hid True := trivial)
    | (go_at_call 10; refine (no_any _ _).mono ?_; rintro e u9 ⟨rfl, h9⟩; rw [h9]; clear h9)
    | (go_at_call 11; have zz := T1; clear T1 zz; refine (alike_dec _ _ _ _ _ n _ _ (zap zs) (zap zs) _ _ b _ _ (flp ms) (flp ms) _ HX1x.out (HS6.out.ac.all (zap_byt hM.2.2.2)) HX2x.out (ownB_all HS6.out.am) (by omega)).mono ?_; rintro e t7 ⟨he, bl⟩
       have he2 : e = .returned (.bool true) := he.trans (by simp)
       subst he2
       have HS7 : Hid (Pst u B b p s g n cc gm cm bk off c mb mo c' zs ms t7 (zap zs) (flp ms)) := HS6.out.up bl
       have F1x : Hid (Own t7 (u.heap.size + 2) g1 K1 c1 P1) := F1.out.below bl
       clear F1
       have F1 := F1x
       clear F1x
       have F2x : Hid (Own t7 (u.heap.size + 2) g2 K2 c2 P2) := F2.out.below bl
       clear F2
       have F2 := F2x
       clear F2x
       have HX1y : Hid (Reads t7 (some ⟨x1, 0, none⟩) n (zap zs)) := HX1x.out.below bl
       have HX2y : Hid (ReadsB t7 (some ⟨x3, 0, none⟩) b (flp ms)) := HX2x.out.below bl
       have HXBy : Hid (t7.heap[t5.heap.size]? = some (.cells #[.int .i64 (b : Int), .int .i64 (p : Int), .int .i64 (s : Int), .slice (some ⟨x1, 0, none⟩) n x2, .slice (some ⟨x3, 0, none⟩) b b] 30 (0, 0))) := (bl.block _ (lt_of_b HXBx.out)).trans HXBx.out
       have HPLy : Hid (ReadsP t7 a9 2 [⟨0, -1⟩, ⟨0, 0⟩]) := HPL.out.below bl
       clear a0 a1 a2 a3 a4 y0 y1 y2 y3 y4 he
       obtain ⟨m0, m1, m2, m3, m4⟩ := cells5 HS7.out.bm
       obtain ⟨y0, y1, y2, y3, y4⟩ := cells5 HXBy.out
       clear bl HS6 HPL HX1x HX2x HXBx
       have T2 : Hid True := trivial)
    | (go_at_call 11; have zz := T2; clear T2 zz; refine (alike_dec _ _ _ _ _ n _ _ (zap zs) zs _ _ b _ _ (flp ms) ms _ HX1y.out HS7.out.mr HX2y.out HS7.out.rdm (by omega)).mono ?_; rintro e t8 ⟨he, bl⟩
       have he2 : e = .returned (.bool false) := he.trans (by rw [decide_eq_false (fun h9 => zap_ne hM.2.2.2 (by rw [hzn]; exact hn0) h9.1)])
       subst he2
       have HS8 : Hid (Pst u B b p s g n cc gm cm bk off c mb mo c' zs ms t8 (zap zs) (flp ms)) := HS7.out.up bl
       have F1x : Hid (Own t8 (u.heap.size + 2) g1 K1 c1 P1) := F1.out.below bl
       clear F1
       have F1 := F1x
       clear F1x
       have F2x : Hid (Own t8 (u.heap.size + 2) g2 K2 c2 P2) := F2.out.below bl
       clear F2
       have F2 := F2x
       clear F2x
       have HPLz : Hid (ReadsP (t8.alloc (.cells #[.int .i64 0, .int .i64 (-1), .int .i64 0, .int .i64 0] 40)) a9 2 [⟨0, -1⟩, ⟨0, 0⟩]) := (HPLy.out.below bl).below (below_alloc _ _)
       clear m0 m1 m2 m3 m4 y0 y1 y2 y3 y4 he bl HS7 HPLy HX1y HX2y HXBy)
    | (go_at_call 20; refine (samePl_eq a9 (some ⟨t8.heap.size, 0, none⟩) 2 c9 2 [⟨0, -1⟩, ⟨0, 0⟩] _ HPLz.out (places_lit t8) (by omega)).mono ?_; rintro e t9 ⟨rfl, q9, ht9⟩
       have bl : Below t8.heap.size t8 t9 := (by rw [ht9]; exact below_drewN (below_alloc t8 _) _)
       have HS9 : Hid (Pst u B b p s g n cc gm cm bk off c mb mo c' zs ms t9 (zap zs) (flp ms)) := HS8.out.up bl
       have F1x : Hid (Own t9 (u.heap.size + 2) g1 K1 c1 P1) := F1.out.below bl
       clear F1
       have F1 := F1x
       clear F1x
       have F2x : Hid (Own t9 (u.heap.size + 2) g2 K2 c2 P2) := F2.out.below bl
       clear F2
       have F2 := F2x
       clear F2x
       clear bl HS8 HPLz ht9)
    )
  go_upto_region 16 with (first
    | (at_builtin; have zz := TA; clear TA zz; refine wpList_append_own _ rfl (.tmp 88) (.tmp 89) 22 rfl t9.heap.size 5 i0 (.int .u8 0) 1 1 Tryd.underlying22 hi hz0 hz1 hz2 rfl (by decide) _ 0 [] rfl (made0 t9) ⟨g2, 0, none⟩ K2 c2 (P2.map (Value.int .u8)) rfl (by rw [List.length_map, hK2, Nat.mul_one]) (World.ownsRow.cells (World.ownsRow.alloc F2.out _) rfl) (ints_one _) (by simp [maxLen]; omega) (by omega) (by simp) ?_; intro vr t11 own10 grow10 _
       have bl : Below t9.heap.size t9 t11 := (below_alloc t9 (.cells #[] 5)).grown grow10 (by simp) (fun i hi => by cases hi; exact Nat.le_refl _)
       have own11 : t11.ownsRow t9.heap.size 5 1 vr K2 (P2.map (Value.int .u8)) := (by simpa using own10)
       obtain ⟨g5, c5, rfl, _, _, hg51, _⟩ := own_shape own11 (by omega)
       have HS11 : Hid (Pst u B b p s g n cc gm cm bk off c mb mo c' zs ms t11 (zap zs) (flp ms)) := HS9.out.up bl
       have F1x : Hid (Own t11 (u.heap.size + 2) g1 K1 c1 P1) := F1.out.below bl
       clear F1
       have F1 := F1x
       clear F1x
       have F6 : Hid (Own t11 (u.heap.size + 2) g1 K1 c1 P1) := F1.out
       have hkk2 : ((K2 : Int) == (K1 : Int)) = false := (by rw [beq_eq_false_iff_ne]; omega)
       clear F2 own10 grow10 own11 bl HS9)
    | (go_at_call 9; have zz := TR; clear TR zz; refine (reads_row hM hP1 hK1 hzn F6.out (HT.out _ HS11.out.bel)).mono ?_; rintro e t12 ⟨y1, y2, y3, rfl, h8, h7, bl⟩
       have bl2 : Below t11.heap.size t11 (t12.alloc (.cells #[.int .i64 (b : Int), .int .i64 (p : Int), .int .i64 (s : Int), .slice (some ⟨y1, 0, none⟩) n y2, .slice (some ⟨y3, 0, none⟩) b b] 30)) := below_trans bl (below_alloc _ _)
       have HS12 : Hid (Pst u B b p s g n cc gm cm bk off c mb mo c' zs ms (t12.alloc (.cells #[.int .i64 (b : Int), .int .i64 (p : Int), .int .i64 (s : Int), .slice (some ⟨y1, 0, none⟩) n y2, .slice (some ⟨y3, 0, none⟩) b b] 30)) (zap zs) (flp ms)) := HS11.out.up bl2
       have F1x : Hid (Own (t12.alloc (.cells #[.int .i64 (b : Int), .int .i64 (p : Int), .int .i64 (s : Int), .slice (some ⟨y1, 0, none⟩) n y2, .slice (some ⟨y3, 0, none⟩) b b] 30)) (u.heap.size + 2) g1 K1 c1 P1) := F1.out.below bl2
       clear F1
       have F1 := F1x
       clear F1x
       have HY1 : Hid (Own (t12.alloc (.cells #[.int .i64 (b : Int), .int .i64 (p : Int), .int .i64 (s : Int), .slice (some ⟨y1, 0, none⟩) n y2, .slice (some ⟨y3, 0, none⟩) b b] 30)) (u.heap.size + 2) y1 n y2 zs) := World.ownsRow.alloc (own_base h8 HS11.out.sz) _
       have HY2 : Hid (OwnB (t12.alloc (.cells #[.int .i64 (b : Int), .int .i64 (p : Int), .int .i64 (s : Int), .slice (some ⟨y1, 0, none⟩) n y2, .slice (some ⟨y3, 0, none⟩) b b] 30)) (u.heap.size + 2) y3 b b ms) := World.ownsRow.alloc (ownsRow_base h7 HS11.out.sz) _
       have HYB : Hid ((t12.alloc (.cells #[.int .i64 (b : Int), .int .i64 (p : Int), .int .i64 (s : Int), .slice (some ⟨y1, 0, none⟩) n y2, .slice (some ⟨y3, 0, none⟩) b b] 30)).heap[t12.heap.size]? = some (.cells #[.int .i64 (b : Int), .int .i64 (p : Int), .int .i64 (s : Int), .slice (some ⟨y1, 0, none⟩) n y2, .slice (some ⟨y3, 0, none⟩) b b] 30 (0, 0))) := heap_alloc_new _ _
       have hyb : u.heap.size + 2 ≤ t12.heap.size := Nat.le_trans HS11.out.sz bl.size
       clear h8 h7 bl bl2 HS11 F6)
    )
  obtain ⟨t13, ht13⟩ : ∃ X, (t12.alloc (.cells #[.int .i64 (b : Int), .int .i64 (p : Int), .int .i64 (s : Int), .slice (some ⟨y1, 0, none⟩) n y2, .slice (some ⟨y3, 0, none⟩) b b] 30)) = X := ⟨_, rfl⟩
  rw [ht13] at HS12 F1 HY1 HY2 HYB ⊢
  clear ht13
  obtain ⟨pb, hpb⟩ : ∃ X, t12.heap.size = X := ⟨_, rfl⟩
  rw [hpb] at HYB hyb ⊢
  clear hpb
  obtain ⟨z16, hz16⟩ : ∃ z, ((zap zs)).getD 0 0 = z := ⟨_, rfl⟩
  have x1 : t13.cell? ⟨u.heap.size, 3, none⟩ = some (.slice (some ⟨g, 0, none⟩) n cc) := (cells5 HS12.out.ba).2.2.2.1
  have x2 : t13.cell? ⟨g, 0, none⟩ = some (.int .u8 z16) := by rw [← hz16]; exact HS12.out.ac.cell 0 hn0
  have x3 : t13.frozen? ⟨g, 0, none⟩ = false := World.ownsRow.frozenAt HS12.out.ac 0
  have HS13 : Hid (Pst u B b p s g n cc gm cm bk off c mb mo c' zs ms (t13.setCell ⟨g, 0, none⟩ (.int .u8 (bits .xor .u8 z16 1))).drew (zap (zap zs)) (flp ms)) := (HS12.out.cell (set_grown _ _ _ _) (own_set0 HS12.out.ac z16 hz16)).drew
  have F1n : Hid (Own (t13.setCell ⟨g, 0, none⟩ (.int .u8 (bits .xor .u8 z16 1))).drew (u.heap.size + 2) g1 K1 c1 P1) := World.ownsRow.drew (World.ownsRow.kept F1.out (set_grown _ _ _ _) (Or.inr (fun e9 => by have e8 : g1 = g := Option.some.inj e9; have h7 := F1.out.lt.1; have h6 := HS12.out.lo; omega)))
  have HY1n : Hid (Own (t13.setCell ⟨g, 0, none⟩ (.int .u8 (bits .xor .u8 z16 1))).drew (u.heap.size + 2) y1 n y2 zs) := World.ownsRow.drew (World.ownsRow.kept HY1.out (set_grown _ _ _ _) (Or.inr (fun e9 => by have e8 : y1 = g := Option.some.inj e9; have h7 := HY1.out.lt.1; have h6 := HS12.out.lo; omega)))
  have HY2n : Hid (OwnB (t13.setCell ⟨g, 0, none⟩ (.int .u8 (bits .xor .u8 z16 1))).drew (u.heap.size + 2) y3 b b ms) := World.ownsRow.drew (World.ownsRow.kept HY2.out (set_grown _ _ _ _) (Or.inr (fun e9 => by have e8 : y3 = g := Option.some.inj e9; have h7 := (World.ownsRow.lt HY2.out y3 rfl).1; have h6 := HS12.out.lo; omega)))
  have HYBn : Hid ((t13.setCell ⟨g, 0, none⟩ (.int .u8 (bits .xor .u8 z16 1))).drew.heap[pb]? = some (.cells #[.int .i64 (b : Int), .int .i64 (p : Int), .int .i64 (s : Int), .slice (some ⟨y1, 0, none⟩) n y2, .slice (some ⟨y3, 0, none⟩) b b] 30 (0, 0))) := ((set_grown _ _ _ _).block _ (lt_of_b HYB.out) (fun e9 => by have e8 := Option.some.inj e9; have h6 := HS12.out.lo; omega)).trans HYB.out
  clear hz16 HS12 F1 HY1 HY2
  go_region
  obtain ⟨r16, hr16⟩ : ∃ X, (t13.setCell ⟨g, 0, none⟩ (.int .u8 (bits .xor .u8 z16 1))).drew = X := ⟨_, rfl⟩
  rw [hr16] at HYBn HS13 F1n HY1n HY2n ⊢
  clear hr16 x1 x2 x3
  have F1 := F1n
  clear F1n
  have HY1 := HY1n
  clear HY1n
  have HY2 := HY2n
  clear HY2n
  clear HYB
  have HYB := HYBn
  clear HYBn
  go_upto_region 17 with fail
  obtain ⟨z17, hz17⟩ : ∃ z, ((flp ms)).getD 0 false = z := ⟨_, rfl⟩
  have x1 : r16.cell? ⟨u.heap.size, 4, none⟩ = some (.slice (some ⟨gm, 0, none⟩) b cm) := (cells5 HS13.out.ba).2.2.2.2
  have x2 : r16.cell? ⟨gm, 0, none⟩ = some (.bool z17) := by rw [← hz17]; exact HS13.out.am.cell 0 hb0
  have x3 : r16.frozen? ⟨gm, 0, none⟩ = false := World.ownsRow.frozenAt HS13.out.am 0
  have HS14 : Hid (Pst u B b p s g n cc gm cm bk off c mb mo c' zs ms (r16.setCell ⟨gm, 0, none⟩ (.bool (!z17))).drew (zap (zap zs)) (flp (flp ms))) := (HS13.out.mark (set_grown _ _ _ _) (ownB_set0 HS13.out.am z17 hz17)).drew
  have F1n : Hid (Own (r16.setCell ⟨gm, 0, none⟩ (.bool (!z17))).drew (u.heap.size + 2) g1 K1 c1 P1) := World.ownsRow.drew (World.ownsRow.kept F1.out (set_grown _ _ _ _) (Or.inr (fun e9 => by have e8 : g1 = gm := Option.some.inj e9; have h7 := F1.out.lt.1; have h6 := HS13.out.lo; omega)))
  have HY1n : Hid (Own (r16.setCell ⟨gm, 0, none⟩ (.bool (!z17))).drew (u.heap.size + 2) y1 n y2 zs) := World.ownsRow.drew (World.ownsRow.kept HY1.out (set_grown _ _ _ _) (Or.inr (fun e9 => by have e8 : y1 = gm := Option.some.inj e9; have h7 := HY1.out.lt.1; have h6 := HS13.out.lo; omega)))
  have HY2n : Hid (OwnB (r16.setCell ⟨gm, 0, none⟩ (.bool (!z17))).drew (u.heap.size + 2) y3 b b ms) := World.ownsRow.drew (World.ownsRow.kept HY2.out (set_grown _ _ _ _) (Or.inr (fun e9 => by have e8 : y3 = gm := Option.some.inj e9; have h7 := (World.ownsRow.lt HY2.out y3 rfl).1; have h6 := HS13.out.lo; omega)))
  have HYBn : Hid ((r16.setCell ⟨gm, 0, none⟩ (.bool (!z17))).drew.heap[pb]? = some (.cells #[.int .i64 (b : Int), .int .i64 (p : Int), .int .i64 (s : Int), .slice (some ⟨y1, 0, none⟩) n y2, .slice (some ⟨y3, 0, none⟩) b b] 30 (0, 0))) := ((set_grown _ _ _ _).block _ (lt_of_b HYB.out) (fun e9 => by have e8 := Option.some.inj e9; have h6 := HS13.out.lo; omega)).trans HYB.out
  clear hz17 HS13 F1 HY1 HY2
  go_region
  obtain ⟨r17, hr17⟩ : ∃ X, (r16.setCell ⟨gm, 0, none⟩ (.bool (!z17))).drew = X := ⟨_, rfl⟩
  rw [hr17] at HYBn HS14 F1n HY1n HY2n ⊢
  clear hr17 x1 x2 x3
  have F1 := F1n
  clear F1n
  have HY1 := HY1n
  clear HY1n
  have HY2 := HY2n
  clear HY2n
  clear HYB
  have HYB := HYBn
  clear HYBn
  have HS15 : Hid (Pst u B b p s g n cc gm cm bk off c mb mo c' zs ms r17 zs ms) := by have h9 := HS14.out; rw [zap_zap hM.2.2.2, flp_flp] at h9; exact h9
  clear HS14
  obtain ⟨a0, a1, a2, a3, a4⟩ := cells5 HS15.out.ba
  have TE : Hid True := trivial
  go_wp2_with (first
    | (go_at_call 16; refine (packs_st HS15.out hM (HT.out _ HS15.out.bel) P1 hP1 K1 hK1).mono ?_; rintro e t18 ⟨g8, c8, rfl, h9, bl⟩
       have HS16 : Hid (Pst u B b p s g n cc gm cm bk off c mb mo c' zs ms t18 zs ms) := HS15.out.up bl
       have HQ1 : Hid (Reads t18 (some ⟨g1, 0, none⟩) K1 P1) := (F1.out.below bl).all hby1
       have HQ2 : Hid (Reads t18 (some ⟨g8, 0, none⟩) K1 P1) := h9.all hby1
       have HQ3 : Hid (Reads t18 (some ⟨y1, 0, none⟩) n zs) := (HY1.out.below bl).all hM.2.2.2
       have HQ4 : Hid (ReadsB t18 (some ⟨y3, 0, none⟩) b ms) := ownB_all (HY2.out.below bl)
       have HQ5 : Hid (t18.heap[pb]? = some (.cells #[.int .i64 (b : Int), .int .i64 (p : Int), .int .i64 (s : Int), .slice (some ⟨y1, 0, none⟩) n y2, .slice (some ⟨y3, 0, none⟩) b b] 30 (0, 0))) := (bl.block _ (lt_of_b HYB.out)).trans HYB.out
       clear h9 bl a0 a1 a2 a3 a4 HS15 F1 HY1 HY2 HYB
       obtain ⟨m0, m1, m2, m3, m4⟩ := cells5 HS16.out.bm
       obtain ⟨y0', y1', y2', y3', y4'⟩ := cells5 HQ5.out)
    | (go_at_call 10; refine (no_any _ _).mono ?_; rintro e u9 ⟨rfl, h9⟩; rw [h9]; clear h9)
    | (go_at_call 17; refine (same_dec _ _ K1 K1 _ _ P1 P1 _ HQ2.out HQ1.out).mono ?_; rintro e u9 ⟨he, h9⟩; have he2 : e = .returned (.bool true) := he.trans (by simp); subst he2; rw [h9]; clear h9 he)
    | (go_at_call 11; refine (alike_dec _ _ _ _ _ n _ _ zs zs _ _ b _ _ ms ms _ HQ3.out HS16.out.mr HQ4.out HS16.out.rdm (by omega)).mono ?_; rintro e t19 ⟨he, bl⟩; have he2 : e = .returned (.bool true) := he.trans (by simp); subst he2
       have HS17 : Hid (Pst u B b p s g n cc gm cm bk off c mb mo c' zs ms t19 zs ms) := HS16.out.up bl
       clear he bl))
  go_ret
  exact ⟨by first | rfl | simp, HS17.out.bel⟩

set_option maxHeartbeats 8000000 in
set_option maxRecDepth 100000 in
theorem placed_eq (u : World) (B b p s g n cc gm cm bk off c mb mo c' : Nat) (zs : List Int) (ms : List Bool) (hM : Img.Ok ⟨b, p, s, zs, ms⟩) (hzn : zs.length = n) (hac : Own u B g n cc zs) (ham : OwnB u B gm b cm ms) (hmr : Reads u (some ⟨bk, off, none⟩) n zs) (hmb : ReadsB u (some ⟨mb, mo, none⟩) b ms) (hlo : g < u.heap.size ∧ gm < u.heap.size ∧ bk < u.heap.size ∧ mb < u.heap.size ∧ bk ≠ g ∧ bk ≠ gm ∧ mb ≠ g ∧ mb ≠ gm ∧ g ≠ gm ∧ B ≤ u.heap.size) (hcc : n ≤ c ∧ c ≤ 9223372036854775807) (hT : ∀ W, Below B u W → Tab W)
    (P1 P2 : List Int) (K : Nat) (hP1 : packL ⟨b, p, s, zs, ms⟩ = P1) (hP2 : packL ⟨b, p, s, zap zs, flp ms⟩ = P2) (hK1 : P1.length = K) (hK2 : P2.length = K) (hKp : 0 < K ∧ K ≤ 900000000) :
    Calls Tryd.prog 24 #[.agg #[.int .i64 (b : Int), .int .i64 (p : Int), .int .i64 (s : Int), .slice (some ⟨g, 0, none⟩) n cc, .slice (some ⟨gm, 0, none⟩) b cm], .agg #[.int .i64 (b : Int), .int .i64 (p : Int), .int .i64 (s : Int), .slice (some ⟨bk, off, none⟩) n c, .slice (some ⟨mb, mo, none⟩) b c']] u fun e w' => e = .returned (.bool true) ∧ Below B u w' := by
  have hM2 := ok_zap hM
  have hzn2 : (zap zs).length = n := (zap_length zs).trans hzn
  have hby1 : Byt P1 := by rw [← hP1]; exact pack_byt _ hM
  have hf : Fits (b : Int) (p : Int) (s : Int) = true := hM.1
  have hq := fits_nat hf
  clear hf
  have hL : zs.length = b * p * (256 * s + (54 + 3 * s)) := hM.2.1
  have hn0 : 0 < n := by rw [← hzn, hL]; exact Nat.mul_pos (Nat.mul_pos (by omega) (by omega)) (by omega)
  have hb0 : 0 < b := by omega
  have hbb : b ≤ 4096 := by omega
  clear hq hL
  have HT : Hid (∀ W, Below B u W → Tab W) := hT
  clear hT
  have HPS : Hid (Pst u B b p s g n cc gm cm bk off c mb mo c' zs ms ((u.alloc (.cells #[.int .i64 (b : Int), .int .i64 (p : Int), .int .i64 (s : Int), .slice (some ⟨g, 0, none⟩) n cc, .slice (some ⟨gm, 0, none⟩) b cm] 30)).alloc (.cells #[.int .i64 (b : Int), .int .i64 (p : Int), .int .i64 (s : Int), .slice (some ⟨bk, off, none⟩) n c, .slice (some ⟨mb, mo, none⟩) b c'] 30)) zs ms) := pst_start u B b p s g n cc gm cm bk off c mb mo c' zs ms hac ham hmr hmb hlo
  clear hac ham hmr hmb
  obtain ⟨i0, hi, hz0, hz1, hz2⟩ := info_parts info5
  go_enter Tryd.func24, Tryd.ntmps24
  have ka := cells5 HPS.out.ba
  obtain ⟨a0, a1, a2, a3, a4⟩ := ka
  go_upto_region 2 with (first
    | (go_at_call 16; refine (packs_st HPS.out hM (HT.out _ HPS.out.bel) P1 hP1 K hK1).mono ?_; rintro e t1 ⟨g1, c1, rfl, h9, bl⟩
       have HS1 : Hid (Pst u B b p s g n cc gm cm bk off c mb mo c' zs ms t1 zs ms) := HPS.out.up bl
       have F1 : Hid (Own t1 (u.heap.size + 2) g1 K c1 P1) := own_base h9 HPS.out.sz
       clear h9 bl a0 a1 a2 a3 a4 HPS))
  obtain ⟨z2, hz2⟩ : ∃ z, (zs).getD 0 0 = z := ⟨_, rfl⟩
  have x1 : t1.cell? ⟨u.heap.size, 3, none⟩ = some (.slice (some ⟨g, 0, none⟩) n cc) := (cells5 HS1.out.ba).2.2.2.1
  have x2 : t1.cell? ⟨g, 0, none⟩ = some (.int .u8 z2) := by rw [← hz2]; exact HS1.out.ac.cell 0 hn0
  have x3 : t1.frozen? ⟨g, 0, none⟩ = false := World.ownsRow.frozenAt HS1.out.ac 0
  have HS2 : Hid (Pst u B b p s g n cc gm cm bk off c mb mo c' zs ms (t1.setCell ⟨g, 0, none⟩ (.int .u8 (bits .xor .u8 z2 1))).drew (zap zs) ms) := (HS1.out.cell (set_grown _ _ _ _) (own_set0 HS1.out.ac z2 hz2)).drew
  have F1n : Hid (Own (t1.setCell ⟨g, 0, none⟩ (.int .u8 (bits .xor .u8 z2 1))).drew (u.heap.size + 2) g1 K c1 P1) := World.ownsRow.drew (World.ownsRow.kept F1.out (set_grown _ _ _ _) (Or.inr (fun e9 => by have e8 : g1 = g := Option.some.inj e9; have h7 := F1.out.lt.1; have h6 := HS1.out.lo; omega)))
  clear hz2 HS1 F1
  go_region
  obtain ⟨r2, hr2⟩ : ∃ X, (t1.setCell ⟨g, 0, none⟩ (.int .u8 (bits .xor .u8 z2 1))).drew = X := ⟨_, rfl⟩
  rw [hr2] at HS2 F1n ⊢
  clear hr2 x1 x2 x3
  have F1 := F1n
  clear F1n
  go_upto_region 3 with fail
  obtain ⟨z3, hz3⟩ : ∃ z, (ms).getD 0 false = z := ⟨_, rfl⟩
  have x1 : r2.cell? ⟨u.heap.size, 4, none⟩ = some (.slice (some ⟨gm, 0, none⟩) b cm) := (cells5 HS2.out.ba).2.2.2.2
  have x2 : r2.cell? ⟨gm, 0, none⟩ = some (.bool z3) := by rw [← hz3]; exact HS2.out.am.cell 0 hb0
  have x3 : r2.frozen? ⟨gm, 0, none⟩ = false := World.ownsRow.frozenAt HS2.out.am 0
  have HS3 : Hid (Pst u B b p s g n cc gm cm bk off c mb mo c' zs ms (r2.setCell ⟨gm, 0, none⟩ (.bool (!z3))).drew (zap zs) (flp ms)) := (HS2.out.mark (set_grown _ _ _ _) (ownB_set0 HS2.out.am z3 hz3)).drew
  have F1n : Hid (Own (r2.setCell ⟨gm, 0, none⟩ (.bool (!z3))).drew (u.heap.size + 2) g1 K c1 P1) := World.ownsRow.drew (World.ownsRow.kept F1.out (set_grown _ _ _ _) (Or.inr (fun e9 => by have e8 : g1 = gm := Option.some.inj e9; have h7 := F1.out.lt.1; have h6 := HS2.out.lo; omega)))
  clear hz3 HS2 F1
  go_region
  obtain ⟨r3, hr3⟩ : ∃ X, (r2.setCell ⟨gm, 0, none⟩ (.bool (!z3))).drew = X := ⟨_, rfl⟩
  rw [hr3] at HS3 F1n ⊢
  clear hr3 x1 x2 x3
  have F1 := F1n
  clear F1n
  obtain ⟨a0, a1, a2, a3, a4⟩ := cells5 HS3.out.ba
  have TR : Hid True := trivial
  have TA : Hid True := trivial
  go_upto_region 11 with (first
    | (go_at_call 16; refine (packs_st HS3.out hM2 (HT.out _ HS3.out.bel) P2 hP2 K hK2).mono ?_; rintro e t4 ⟨g2, c2, rfl, h9, bl⟩
       have HS4 : Hid (Pst u B b p s g n cc gm cm bk off c mb mo c' zs ms t4 (zap zs) (flp ms)) := HS3.out.up bl
       have F1x : Hid (Own t4 (u.heap.size + 2) g1 K c1 P1) := F1.out.below bl
       clear F1
       have F1 := F1x
       clear F1x
       have F2 : Hid (Own t4 (u.heap.size + 2) g2 K c2 P2) := own_base h9 HS3.out.sz
       clear h9 bl a0 a1 a2 a3 a4 HS3)
    | (go_at_call 9; refine (reads_row hM2 hP2 hK2 hzn2 F2.out (HT.out _ HS4.out.bel)).mono ?_; rintro e t5 ⟨x1, x2, x3, rfl, h8, h7, bl⟩
       have bl2 : Below t4.heap.size t4 (t5.alloc (.cells #[.int .i64 (b : Int), .int .i64 (p : Int), .int .i64 (s : Int), .slice (some ⟨x1, 0, none⟩) n x2, .slice (some ⟨x3, 0, none⟩) b b] 30)) := below_trans bl (below_alloc _ _)
       have HS5 : Hid (Pst u B b p s g n cc gm cm bk off c mb mo c' zs ms (t5.alloc (.cells #[.int .i64 (b : Int), .int .i64 (p : Int), .int .i64 (s : Int), .slice (some ⟨x1, 0, none⟩) n x2, .slice (some ⟨x3, 0, none⟩) b b] 30)) (zap zs) (flp ms)) := HS4.out.up bl2
       have F1x : Hid (Own (t5.alloc (.cells #[.int .i64 (b : Int), .int .i64 (p : Int), .int .i64 (s : Int), .slice (some ⟨x1, 0, none⟩) n x2, .slice (some ⟨x3, 0, none⟩) b b] 30)) (u.heap.size + 2) g1 K c1 P1) := F1.out.below bl2
       clear F1
       have F1 := F1x
       clear F1x
       have F2x : Hid (Own (t5.alloc (.cells #[.int .i64 (b : Int), .int .i64 (p : Int), .int .i64 (s : Int), .slice (some ⟨x1, 0, none⟩) n x2, .slice (some ⟨x3, 0, none⟩) b b] 30)) (u.heap.size + 2) g2 K c2 P2) := F2.out.below bl2
       clear F2
       have F2 := F2x
       clear F2x
       have HX1 : Hid (Reads (t5.alloc (.cells #[.int .i64 (b : Int), .int .i64 (p : Int), .int .i64 (s : Int), .slice (some ⟨x1, 0, none⟩) n x2, .slice (some ⟨x3, 0, none⟩) b b] 30)) (some ⟨x1, 0, none⟩) n (zap zs)) := (h8.all (zap_byt hM.2.2.2)).below (below_alloc _ _)
       have HX2 : Hid (ReadsB (t5.alloc (.cells #[.int .i64 (b : Int), .int .i64 (p : Int), .int .i64 (s : Int), .slice (some ⟨x1, 0, none⟩) n x2, .slice (some ⟨x3, 0, none⟩) b b] 30)) (some ⟨x3, 0, none⟩) b (flp ms)) := (ownB_all h7).below (below_alloc _ _)
       have HXB : Hid ((t5.alloc (.cells #[.int .i64 (b : Int), .int .i64 (p : Int), .int .i64 (s : Int), .slice (some ⟨x1, 0, none⟩) n x2, .slice (some ⟨x3, 0, none⟩) b b] 30)).heap[t5.heap.size]? = some (.cells #[.int .i64 (b : Int), .int .i64 (p : Int), .int .i64 (s : Int), .slice (some ⟨x1, 0, none⟩) n x2, .slice (some ⟨x3, 0, none⟩) b b] 30 (0, 0))) := heap_alloc_new _ _
       obtain ⟨a0, a1, a2, a3, a4⟩ := cells5 HS5.out.ba
       obtain ⟨m0, m1, m2, m3, m4⟩ := cells5 HS5.out.bm
       clear h8 h7 bl bl2 HS4)
    | (go_at_call 19; refine (diff_st HS5.out hM hzn hcc).mono ?_; rintro e t6 ⟨a9, c9, rfl, hpl, bl⟩
       have HS6 : Hid (Pst u B b p s g n cc gm cm bk off c mb mo c' zs ms t6 (zap zs) (flp ms)) := HS5.out.up bl
       have F1x : Hid (Own t6 (u.heap.size + 2) g1 K c1 P1) := F1.out.below bl
       clear F1
       have F1 := F1x
       clear F1x
       have F2x : Hid (Own t6 (u.heap.size + 2) g2 K c2 P2) := F2.out.below bl
       clear F2
       have F2 := F2x
       clear F2x
       have HX1x : Hid (Reads t6 (some ⟨x1, 0, none⟩) n (zap zs)) := HX1.out.below bl
       have HX2x : Hid (ReadsB t6 (some ⟨x3, 0, none⟩) b (flp ms)) := HX2.out.below bl
       have HXBx : Hid (t6.heap[t5.heap.size]? = some (.cells #[.int .i64 (b : Int), .int .i64 (p : Int), .int .i64 (s : Int), .slice (some ⟨x1, 0, none⟩) n x2, .slice (some ⟨x3, 0, none⟩) b b] 30 (0, 0))) := (bl.block _ (lt_of_b HXB.out)).trans HXB.out
       have HPL : Hid (ReadsP t6 a9 2 [⟨0, -1⟩, ⟨0, 0⟩]) := hpl
       clear a0 a1 a2 a3 a4 m0 m1 m2 m3 m4
       obtain ⟨a0, a1, a2, a3, a4⟩ := cells5 HS6.out.ba
       obtain ⟨y0, y1, y2, y3, y4⟩ := cells5 HXBx.out
       clear bl HS5 hpl HX1 HX2 HXB
       have T1 : Hid True := trivial)
    | (go_at_call 10; refine (no_any _ _).mono ?_; rintro e u9 ⟨rfl, h9⟩; rw [h9]; clear h9)
    | (go_at_call 11; have zz := T1; clear T1 zz; refine (alike_dec _ _ _ _ _ n _ _ (zap zs) (zap zs) _ _ b _ _ (flp ms) (flp ms) _ HX1x.out (HS6.out.ac.all (zap_byt hM.2.2.2)) HX2x.out (ownB_all HS6.out.am) (by omega)).mono ?_; rintro e t7 ⟨he, bl⟩
       have he2 : e = .returned (.bool true) := he.trans (by simp)
       subst he2
       have HS7 : Hid (Pst u B b p s g n cc gm cm bk off c mb mo c' zs ms t7 (zap zs) (flp ms)) := HS6.out.up bl
       have F1x : Hid (Own t7 (u.heap.size + 2) g1 K c1 P1) := F1.out.below bl
       clear F1
       have F1 := F1x
       clear F1x
       have F2x : Hid (Own t7 (u.heap.size + 2) g2 K c2 P2) := F2.out.below bl
       clear F2
       have F2 := F2x
       clear F2x
       have HX1y : Hid (Reads t7 (some ⟨x1, 0, none⟩) n (zap zs)) := HX1x.out.below bl
       have HX2y : Hid (ReadsB t7 (some ⟨x3, 0, none⟩) b (flp ms)) := HX2x.out.below bl
       have HXBy : Hid (t7.heap[t5.heap.size]? = some (.cells #[.int .i64 (b : Int), .int .i64 (p : Int), .int .i64 (s : Int), .slice (some ⟨x1, 0, none⟩) n x2, .slice (some ⟨x3, 0, none⟩) b b] 30 (0, 0))) := (bl.block _ (lt_of_b HXBx.out)).trans HXBx.out
       have HPLy : Hid (ReadsP t7 a9 2 [⟨0, -1⟩, ⟨0, 0⟩]) := HPL.out.below bl
       clear a0 a1 a2 a3 a4 y0 y1 y2 y3 y4 he
       obtain ⟨m0, m1, m2, m3, m4⟩ := cells5 HS7.out.bm
       obtain ⟨y0, y1, y2, y3, y4⟩ := cells5 HXBy.out
       clear bl HS6 HPL HX1x HX2x HXBx
       have T2 : Hid True := trivial)
    | (go_at_call 11; have zz := T2; clear T2 zz; refine (alike_dec _ _ _ _ _ n _ _ (zap zs) zs _ _ b _ _ (flp ms) ms _ HX1y.out HS7.out.mr HX2y.out HS7.out.rdm (by omega)).mono ?_; rintro e t8 ⟨he, bl⟩
       have he2 : e = .returned (.bool false) := he.trans (by rw [decide_eq_false (fun h9 => zap_ne hM.2.2.2 (by rw [hzn]; exact hn0) h9.1)])
       subst he2
       have HS8 : Hid (Pst u B b p s g n cc gm cm bk off c mb mo c' zs ms t8 (zap zs) (flp ms)) := HS7.out.up bl
       have F1x : Hid (Own t8 (u.heap.size + 2) g1 K c1 P1) := F1.out.below bl
       clear F1
       have F1 := F1x
       clear F1x
       have F2x : Hid (Own t8 (u.heap.size + 2) g2 K c2 P2) := F2.out.below bl
       clear F2
       have F2 := F2x
       clear F2x
       have HPLz : Hid (ReadsP (t8.alloc (.cells #[.int .i64 0, .int .i64 (-1), .int .i64 0, .int .i64 0] 40)) a9 2 [⟨0, -1⟩, ⟨0, 0⟩]) := (HPLy.out.below bl).below (below_alloc _ _)
       clear m0 m1 m2 m3 m4 y0 y1 y2 y3 y4 he bl HS7 HPLy HX1y HX2y HXBy)
    | (go_at_call 20; refine (samePl_eq a9 (some ⟨t8.heap.size, 0, none⟩) 2 c9 2 [⟨0, -1⟩, ⟨0, 0⟩] _ HPLz.out (places_lit t8) (by omega)).mono ?_; rintro e t9 ⟨rfl, q9, ht9⟩
       have bl : Below t8.heap.size t8 t9 := (by rw [ht9]; exact below_drewN (below_alloc t8 _) _)
       have HS9 : Hid (Pst u B b p s g n cc gm cm bk off c mb mo c' zs ms t9 (zap zs) (flp ms)) := HS8.out.up bl
       have F1x : Hid (Own t9 (u.heap.size + 2) g1 K c1 P1) := F1.out.below bl
       clear F1
       have F1 := F1x
       clear F1x
       have F2x : Hid (Own t9 (u.heap.size + 2) g2 K c2 P2) := F2.out.below bl
       clear F2
       have F2 := F2x
       clear F2x
       clear bl HS8 HPLz ht9)
    )
  go_upto_region 16 with (first
    | (at_builtin; have zz := TA; clear TA zz; have F1o := F1; refine wpList_append_own _ rfl (.tmp 88) (.tmp 89) 22 rfl t9.heap.size 5 i0 (.int .u8 0) 1 1 Tryd.underlying22 hi hz0 hz1 hz2 rfl (by decide) _ 0 [] rfl (made0 t9) ⟨g2, 0, none⟩ K c2 (P2.map (Value.int .u8)) rfl (by rw [List.length_map, hK2, Nat.mul_one]) (World.ownsRow.cells (World.ownsRow.alloc F2.out _) rfl) (ints_one _) (by simp [maxLen]; omega) (by omega) (by simp) ?_; intro vr t10 own10 grow10 _
       have bl : Below t9.heap.size t9 t10 := (below_alloc t9 (.cells #[] 5)).grown grow10 (by simp) (fun i hi => by cases hi; exact Nat.le_refl _)
       have own11 : t10.ownsRow t9.heap.size 5 1 vr K (P2.map (Value.int .u8)) := (by simpa using own10)
       obtain ⟨g5, c5, rfl, _, _, hg51, _⟩ := own_shape own11 (by omega)
       have HS10 : Hid (Pst u B b p s g n cc gm cm bk off c mb mo c' zs ms t10 (zap zs) (flp ms)) := HS9.out.up bl
       have F1x : Hid (Own t10 (u.heap.size + 2) g1 K c1 P1) := F1.out.below bl
       have hgt : g1 < g5 ∧ u.heap.size + 2 ≤ g5 := ⟨Nat.lt_of_lt_of_le F1o.out.lt.2 hg51, Nat.le_trans HS9.out.sz hg51⟩
       clear F1 F1o
       have F1 := F1x
       clear F1x
       have F5 : Hid (t10.ownsRow (u.heap.size + 2) 5 1 (.slice (some ⟨g5, 0, none⟩) K c5) K (P2.map (Value.int .u8))) := ownsRow_base own11 HS9.out.sz
       obtain ⟨t11, hrun, own12, grow11⟩ := run_copy_all 3 (u.heap.size + 2) g5 K c5 c1 P2 P1 ⟨g1, 0, none⟩ F5.out (F1.out.all hby1)
       have HS11 : Hid (Pst u B b p s g n cc gm cm bk off c mb mo c' zs ms t11 (zap zs) (flp ms)) := HS10.out.other grow11 hgt.2
       have F1x : Hid (Own t11 (u.heap.size + 2) g1 K c1 P1) := World.ownsRow.kept F1.out grow11 (Or.inr (fun e9 => by have e8 : g1 = g5 := Option.some.inj e9; omega))
       clear F1
       have F1 := F1x
       clear F1x
       have F6 : Hid (Own t11 (u.heap.size + 2) g5 K c5 P1) := own12
       clear F2 own10 grow10 own11 bl HS9 own12 grow11 HS10 F5)
    | (go_at_call 9; have zz := TR; clear TR zz; refine (reads_row hM hP1 hK1 hzn F6.out (HT.out _ HS11.out.bel)).mono ?_; rintro e t12 ⟨y1, y2, y3, rfl, h8, h7, bl⟩
       have bl2 : Below t11.heap.size t11 (t12.alloc (.cells #[.int .i64 (b : Int), .int .i64 (p : Int), .int .i64 (s : Int), .slice (some ⟨y1, 0, none⟩) n y2, .slice (some ⟨y3, 0, none⟩) b b] 30)) := below_trans bl (below_alloc _ _)
       have HS12 : Hid (Pst u B b p s g n cc gm cm bk off c mb mo c' zs ms (t12.alloc (.cells #[.int .i64 (b : Int), .int .i64 (p : Int), .int .i64 (s : Int), .slice (some ⟨y1, 0, none⟩) n y2, .slice (some ⟨y3, 0, none⟩) b b] 30)) (zap zs) (flp ms)) := HS11.out.up bl2
       have F1x : Hid (Own (t12.alloc (.cells #[.int .i64 (b : Int), .int .i64 (p : Int), .int .i64 (s : Int), .slice (some ⟨y1, 0, none⟩) n y2, .slice (some ⟨y3, 0, none⟩) b b] 30)) (u.heap.size + 2) g1 K c1 P1) := F1.out.below bl2
       clear F1
       have F1 := F1x
       clear F1x
       have HY1 : Hid (Own (t12.alloc (.cells #[.int .i64 (b : Int), .int .i64 (p : Int), .int .i64 (s : Int), .slice (some ⟨y1, 0, none⟩) n y2, .slice (some ⟨y3, 0, none⟩) b b] 30)) (u.heap.size + 2) y1 n y2 zs) := World.ownsRow.alloc (own_base h8 HS11.out.sz) _
       have HY2 : Hid (OwnB (t12.alloc (.cells #[.int .i64 (b : Int), .int .i64 (p : Int), .int .i64 (s : Int), .slice (some ⟨y1, 0, none⟩) n y2, .slice (some ⟨y3, 0, none⟩) b b] 30)) (u.heap.size + 2) y3 b b ms) := World.ownsRow.alloc (ownsRow_base h7 HS11.out.sz) _
       have HYB : Hid ((t12.alloc (.cells #[.int .i64 (b : Int), .int .i64 (p : Int), .int .i64 (s : Int), .slice (some ⟨y1, 0, none⟩) n y2, .slice (some ⟨y3, 0, none⟩) b b] 30)).heap[t12.heap.size]? = some (.cells #[.int .i64 (b : Int), .int .i64 (p : Int), .int .i64 (s : Int), .slice (some ⟨y1, 0, none⟩) n y2, .slice (some ⟨y3, 0, none⟩) b b] 30 (0, 0))) := heap_alloc_new _ _
       have hyb : u.heap.size + 2 ≤ t12.heap.size := Nat.le_trans HS11.out.sz bl.size
       clear h8 h7 bl bl2 HS11 F6)
    )
  obtain ⟨t13, ht13⟩ : ∃ X, (t12.alloc (.cells #[.int .i64 (b : Int), .int .i64 (p : Int), .int .i64 (s : Int), .slice (some ⟨y1, 0, none⟩) n y2, .slice (some ⟨y3, 0, none⟩) b b] 30)) = X := ⟨_, rfl⟩
  rw [ht13] at HS12 F1 HY1 HY2 HYB ⊢
  clear ht13
  obtain ⟨pb, hpb⟩ : ∃ X, t12.heap.size = X := ⟨_, rfl⟩
  rw [hpb] at HYB hyb ⊢
  clear hpb
  obtain ⟨z16, hz16⟩ : ∃ z, ((zap zs)).getD 0 0 = z := ⟨_, rfl⟩
  have x1 : t13.cell? ⟨u.heap.size, 3, none⟩ = some (.slice (some ⟨g, 0, none⟩) n cc) := (cells5 HS12.out.ba).2.2.2.1
  have x2 : t13.cell? ⟨g, 0, none⟩ = some (.int .u8 z16) := by rw [← hz16]; exact HS12.out.ac.cell 0 hn0
  have x3 : t13.frozen? ⟨g, 0, none⟩ = false := World.ownsRow.frozenAt HS12.out.ac 0
  have HS13 : Hid (Pst u B b p s g n cc gm cm bk off c mb mo c' zs ms (t13.setCell ⟨g, 0, none⟩ (.int .u8 (bits .xor .u8 z16 1))).drew (zap (zap zs)) (flp ms)) := (HS12.out.cell (set_grown _ _ _ _) (own_set0 HS12.out.ac z16 hz16)).drew
  have F1n : Hid (Own (t13.setCell ⟨g, 0, none⟩ (.int .u8 (bits .xor .u8 z16 1))).drew (u.heap.size + 2) g1 K c1 P1) := World.ownsRow.drew (World.ownsRow.kept F1.out (set_grown _ _ _ _) (Or.inr (fun e9 => by have e8 : g1 = g := Option.some.inj e9; have h7 := F1.out.lt.1; have h6 := HS12.out.lo; omega)))
  have HY1n : Hid (Own (t13.setCell ⟨g, 0, none⟩ (.int .u8 (bits .xor .u8 z16 1))).drew (u.heap.size + 2) y1 n y2 zs) := World.ownsRow.drew (World.ownsRow.kept HY1.out (set_grown _ _ _ _) (Or.inr (fun e9 => by have e8 : y1 = g := Option.some.inj e9; have h7 := HY1.out.lt.1; have h6 := HS12.out.lo; omega)))
  have HY2n : Hid (OwnB (t13.setCell ⟨g, 0, none⟩ (.int .u8 (bits .xor .u8 z16 1))).drew (u.heap.size + 2) y3 b b ms) := World.ownsRow.drew (World.ownsRow.kept HY2.out (set_grown _ _ _ _) (Or.inr (fun e9 => by have e8 : y3 = g := Option.some.inj e9; have h7 := (World.ownsRow.lt HY2.out y3 rfl).1; have h6 := HS12.out.lo; omega)))
  have HYBn : Hid ((t13.setCell ⟨g, 0, none⟩ (.int .u8 (bits .xor .u8 z16 1))).drew.heap[pb]? = some (.cells #[.int .i64 (b : Int), .int .i64 (p : Int), .int .i64 (s : Int), .slice (some ⟨y1, 0, none⟩) n y2, .slice (some ⟨y3, 0, none⟩) b b] 30 (0, 0))) := ((set_grown _ _ _ _).block _ (lt_of_b HYB.out) (fun e9 => by have e8 := Option.some.inj e9; have h6 := HS12.out.lo; omega)).trans HYB.out
  clear hz16 HS12 F1 HY1 HY2
  go_region
  obtain ⟨r16, hr16⟩ : ∃ X, (t13.setCell ⟨g, 0, none⟩ (.int .u8 (bits .xor .u8 z16 1))).drew = X := ⟨_, rfl⟩
  rw [hr16] at HYBn HS13 F1n HY1n HY2n ⊢
  clear hr16 x1 x2 x3
  have F1 := F1n
  clear F1n
  have HY1 := HY1n
  clear HY1n
  have HY2 := HY2n
  clear HY2n
  clear HYB
  have HYB := HYBn
  clear HYBn
  go_upto_region 17 with fail
  obtain ⟨z17, hz17⟩ : ∃ z, ((flp ms)).getD 0 false = z := ⟨_, rfl⟩
  have x1 : r16.cell? ⟨u.heap.size, 4, none⟩ = some (.slice (some ⟨gm, 0, none⟩) b cm) := (cells5 HS13.out.ba).2.2.2.2
  have x2 : r16.cell? ⟨gm, 0, none⟩ = some (.bool z17) := by rw [← hz17]; exact HS13.out.am.cell 0 hb0
  have x3 : r16.frozen? ⟨gm, 0, none⟩ = false := World.ownsRow.frozenAt HS13.out.am 0
  have HS14 : Hid (Pst u B b p s g n cc gm cm bk off c mb mo c' zs ms (r16.setCell ⟨gm, 0, none⟩ (.bool (!z17))).drew (zap (zap zs)) (flp (flp ms))) := (HS13.out.mark (set_grown _ _ _ _) (ownB_set0 HS13.out.am z17 hz17)).drew
  have F1n : Hid (Own (r16.setCell ⟨gm, 0, none⟩ (.bool (!z17))).drew (u.heap.size + 2) g1 K c1 P1) := World.ownsRow.drew (World.ownsRow.kept F1.out (set_grown _ _ _ _) (Or.inr (fun e9 => by have e8 : g1 = gm := Option.some.inj e9; have h7 := F1.out.lt.1; have h6 := HS13.out.lo; omega)))
  have HY1n : Hid (Own (r16.setCell ⟨gm, 0, none⟩ (.bool (!z17))).drew (u.heap.size + 2) y1 n y2 zs) := World.ownsRow.drew (World.ownsRow.kept HY1.out (set_grown _ _ _ _) (Or.inr (fun e9 => by have e8 : y1 = gm := Option.some.inj e9; have h7 := HY1.out.lt.1; have h6 := HS13.out.lo; omega)))
  have HY2n : Hid (OwnB (r16.setCell ⟨gm, 0, none⟩ (.bool (!z17))).drew (u.heap.size + 2) y3 b b ms) := World.ownsRow.drew (World.ownsRow.kept HY2.out (set_grown _ _ _ _) (Or.inr (fun e9 => by have e8 : y3 = gm := Option.some.inj e9; have h7 := (World.ownsRow.lt HY2.out y3 rfl).1; have h6 := HS13.out.lo; omega)))
  have HYBn : Hid ((r16.setCell ⟨gm, 0, none⟩ (.bool (!z17))).drew.heap[pb]? = some (.cells #[.int .i64 (b : Int), .int .i64 (p : Int), .int .i64 (s : Int), .slice (some ⟨y1, 0, none⟩) n y2, .slice (some ⟨y3, 0, none⟩) b b] 30 (0, 0))) := ((set_grown _ _ _ _).block _ (lt_of_b HYB.out) (fun e9 => by have e8 := Option.some.inj e9; have h6 := HS13.out.lo; omega)).trans HYB.out
  clear hz17 HS13 F1 HY1 HY2
  go_region
  obtain ⟨r17, hr17⟩ : ∃ X, (r16.setCell ⟨gm, 0, none⟩ (.bool (!z17))).drew = X := ⟨_, rfl⟩
  rw [hr17] at HYBn HS14 F1n HY1n HY2n ⊢
  clear hr17 x1 x2 x3
  have F1 := F1n
  clear F1n
  have HY1 := HY1n
  clear HY1n
  have HY2 := HY2n
  clear HY2n
  clear HYB
  have HYB := HYBn
  clear HYBn
  have HS15 : Hid (Pst u B b p s g n cc gm cm bk off c mb mo c' zs ms r17 zs ms) := by have h9 := HS14.out; rw [zap_zap hM.2.2.2, flp_flp] at h9; exact h9
  clear HS14
  obtain ⟨a0, a1, a2, a3, a4⟩ := cells5 HS15.out.ba
  have TE : Hid True := trivial
  go_wp2_with (first
    | (go_at_call 16; refine (packs_st HS15.out hM (HT.out _ HS15.out.bel) P1 hP1 K hK1).mono ?_; rintro e t18 ⟨g8, c8, rfl, h9, bl⟩
       have HS16 : Hid (Pst u B b p s g n cc gm cm bk off c mb mo c' zs ms t18 zs ms) := HS15.out.up bl
       have HQ1 : Hid (Reads t18 (some ⟨g1, 0, none⟩) K P1) := (F1.out.below bl).all hby1
       have HQ2 : Hid (Reads t18 (some ⟨g8, 0, none⟩) K P1) := h9.all hby1
       have HQ3 : Hid (Reads t18 (some ⟨y1, 0, none⟩) n zs) := (HY1.out.below bl).all hM.2.2.2
       have HQ4 : Hid (ReadsB t18 (some ⟨y3, 0, none⟩) b ms) := ownB_all (HY2.out.below bl)
       have HQ5 : Hid (t18.heap[pb]? = some (.cells #[.int .i64 (b : Int), .int .i64 (p : Int), .int .i64 (s : Int), .slice (some ⟨y1, 0, none⟩) n y2, .slice (some ⟨y3, 0, none⟩) b b] 30 (0, 0))) := (bl.block _ (lt_of_b HYB.out)).trans HYB.out
       clear h9 bl a0 a1 a2 a3 a4 HS15 F1 HY1 HY2 HYB
       obtain ⟨m0, m1, m2, m3, m4⟩ := cells5 HS16.out.bm
       obtain ⟨y0', y1', y2', y3', y4'⟩ := cells5 HQ5.out)
    | (go_at_call 10; refine (no_any _ _).mono ?_; rintro e u9 ⟨rfl, h9⟩; rw [h9]; clear h9)
    | (go_at_call 17; refine (same_dec _ _ K K _ _ P1 P1 _ HQ2.out HQ1.out).mono ?_; rintro e u9 ⟨he, h9⟩; have he2 : e = .returned (.bool true) := he.trans (by simp); subst he2; rw [h9]; clear h9 he)
    | (go_at_call 11; refine (alike_dec _ _ _ _ _ n _ _ zs zs _ _ b _ _ ms ms _ HQ3.out HS16.out.mr HQ4.out HS16.out.rdm (by omega)).mono ?_; rintro e t19 ⟨he, bl⟩; have he2 : e = .returned (.bool true) := he.trans (by simp); subst he2
       have HS17 : Hid (Pst u B b p s g n cc gm cm bk off c mb mo c' zs ms t19 zs ms) := HS16.out.up bl
       clear he bl))
  go_ret
  exact ⟨by first | rfl | simp, HS17.out.bel⟩

theorem pack_pos (M : Img) : 0 < (packL M).length := by
  unfold packL sealL
  rw [List.length_append]
  show 0 < _ + 4
  omega
theorem placed_any (u : World) (B b p s g n cc gm cm bk off c mb mo c' : Nat) (zs : List Int) (ms : List Bool) (hM : Img.Ok ⟨b, p, s, zs, ms⟩) (hzn : zs.length = n) (hac : Own u B g n cc zs) (ham : OwnB u B gm b cm ms) (hmr : Reads u (some ⟨bk, off, none⟩) n zs) (hmb : ReadsB u (some ⟨mb, mo, none⟩) b ms) (hlo : g < u.heap.size ∧ gm < u.heap.size ∧ bk < u.heap.size ∧ mb < u.heap.size ∧ bk ≠ g ∧ bk ≠ gm ∧ mb ≠ g ∧ mb ≠ gm ∧ g ≠ gm ∧ B ≤ u.heap.size) (hcc : n ≤ c ∧ c ≤ 9223372036854775807) (hT : ∀ W, Below B u W → Tab W) :
    Calls Tryd.prog 24 #[.agg #[.int .i64 (b : Int), .int .i64 (p : Int), .int .i64 (s : Int), .slice (some ⟨g, 0, none⟩) n cc, .slice (some ⟨gm, 0, none⟩) b cm], .agg #[.int .i64 (b : Int), .int .i64 (p : Int), .int .i64 (s : Int), .slice (some ⟨bk, off, none⟩) n c, .slice (some ⟨mb, mo, none⟩) b c']] u fun e w' => e = .returned (.bool true) ∧ Below B u w' := by
  by_cases h : (packL ⟨b, p, s, zap zs, flp ms⟩).length = (packL ⟨b, p, s, zs, ms⟩).length
  · exact placed_eq u B b p s g n cc gm cm bk off c mb mo c' zs ms hM hzn hac ham hmr hmb hlo hcc hT _ _ _ rfl rfl rfl h ⟨pack_pos _, pack_len _ hM⟩
  · exact placed_ne u B b p s g n cc gm cm bk off c mb mo c' zs ms hM hzn hac ham hmr hmb hlo hcc hT _ _ _ _ rfl rfl rfl rfl ⟨pack_pos _, pack_len _ (ok_zap hM)⟩ h
end Go.Proofs.YteefekhlbillfaaDoor
