/-
  SEAT Ytoaahellfflooaa: many objects.
-/
import Derived.Test.YtoaahellfflooaaPf
namespace Go.Proofs.Ytoaahellfflooaa
open Go.RowKit
set_option linter.unusedVariables false

/-- Objects in memory: each with its row of chunks. -/
def flatO (l : List (Ob × Value)) : List Value := l.flatMap fun x => x.1.cells x.2
theorem flatO_add (l : List (Ob × Value)) (x : Ob × Value) : flatO (l ++ [x]) = flatO l ++ x.1.cells x.2 := by simp [flatO]
def ObsOk (u : World) (B : Nat) (l : List (Ob × Value)) : Prop := ∀ x ∈ l, u.ownsRow B 71 4 x.2 x.1.ch.length (flatChk x.1.ch)
/-- A block of another kind. -/
def Oth (u : World) (r : Option Nat) (B : Nat) (e : TypeId) : Prop := ∀ k, r = some k → k < B ∨ ∃ cs t, u.heap[k]? = some (.cells cs t (0, 0)) ∧ t ≠ e
theorem own_tag {u : World} {B e size n : Nat} {v : Value} {xs : List Value} (h : u.ownsRow B e size v n xs) : ∀ k, v.ownBlock = some k → ∃ cs, u.heap[k]? = some (.cells cs e (0, 0)) := by
  intro k hk
  rcases h.2 with ⟨h3, _⟩ | ⟨g, cap, cur, hv, _, hg, _⟩
  · subst h3; cases hk
  · subst hv; cases hk; exact ⟨_, hg⟩
theorem own_oth {u u' : World} {B C e size n : Nat} {v : Value} {xs : List Value} {r : Option Nat} (h : u.ownsRow B e size v n xs) (g : u.grownBy u' r) (ho : Oth u r C e) (hC : C ≤ B) : u'.ownsRow B e size v n xs := by
  refine h.kept g ?_
  cases hv : v.ownBlock with
  | none => exact Or.inl rfl
  | some k =>
    refine Or.inr (fun e2 => ?_)
    rcases ho k e2.symm with h1 | ⟨cs, t, h1, h2⟩
    · have := (h.lt k hv).1; omega
    · obtain ⟨cs2, h3⟩ := own_tag h k hv
      rw [h1] at h3; injection h3 with h3; injection h3 with _ h3; exact h2 h3
theorem ObsOk.oth {u u' : World} {B C : Nat} {l : List (Ob × Value)} {r : Option Nat} (h : ObsOk u B l) (g : u.grownBy u' r) (ho : Oth u r C 71) (hC : C ≤ B) : ObsOk u' B l := fun x hx => own_oth (h x hx) g ho hC
theorem ObsOk.low {u : World} {B C : Nat} {l : List (Ob × Value)} (h : ObsOk u B l) (hC : C ≤ B) : ObsOk u C l := fun x hx => own_low (h x hx) hC
theorem oth_none (u : World) (B : Nat) (e : TypeId) : Oth u none B e := fun k h => by cases h
theorem oth_lt {u : World} {q B : Nat} (e : TypeId) (h : q < B) : Oth u (some q) B e := fun k hk => by cases hk; exact Or.inl h
theorem oth_own {u : World} {B C e f size n : Nat} {v : Value} {xs : List Value} (h : u.ownsRow B e size v n xs) (hne : e ≠ f) : Oth u v.ownBlock C f := fun k hk => by
  obtain ⟨cs, h1⟩ := own_tag h k hk; exact Or.inr ⟨cs, e, h1, hne⟩

structure Mno (w u : World) (B q : Nat) (v : Value) (n : Nat) (l : List (Ob × Value)) (rest : List Int) : Prop where
  m : Mny w u B q 55 13 v n (flatO l) rest
  ok : ObsOk u w.heap.size l
section
variable {w u u' : World} {B q : Nat} {v v' : Value} {n m : Nat} {l : List (Ob × Value)} {rest r2 : List Int}
theorem Mno.start (hR : RdAt w B q rest) : Mno w w B q (.slice none 0 0) 0 [] rest := ⟨Mny.start hR, fun x hx => by cases hx⟩
theorem Mno.call (h : Mno w u B q v n l rest) (g : u.grownBy u' (some q)) (r : RdAt u' B q r2) : Mno w u' B q v n l r2 := ⟨h.m.call g r, h.ok.oth g (oth_lt 71 h.m.lt.2) (Nat.le_refl _)⟩
theorem Mno.alloc (h : Mno w u B q v n l rest) (b : Obj) : Mno w (u.alloc b) B q v n l rest := ⟨h.m.alloc b, h.ok.oth (grown_of (below_alloc u b) none) (oth_none u w.heap.size 71) (Nat.le_refl _)⟩
theorem Mno.push (h : Mno w u B q v n l rest) (x : Ob × Value) (hx : u.ownsRow w.heap.size 71 4 x.2 x.1.ch.length (flatChk x.1.ch)) (hg : u.grownBy u' v.ownBlock) (ho : u'.ownsRow w.heap.size 55 13 v' m (flatO l ++ x.1.cells x.2)) : Mno w u' B q v' m (l ++ [x]) rest := by
  have h2 : Oth u v.ownBlock w.heap.size 71 := oth_own h.m.own (by decide)
  refine ⟨by rw [flatO_add]; exact h.m.push hg ho, fun y hy => ?_⟩
  rcases List.mem_append.1 hy with h3 | h3
  · exact (h.ok.oth hg h2 (Nat.le_refl _)) y h3
  · rw [List.mem_singleton] at h3; subst h3; exact own_oth hx hg h2 (Nat.le_refl _)
end
theorem list_news (u : World) (e : TypeId) (cs : List Value) : ∀ j v, cs[j]? = some v → (u.alloc (.cells cs.toArray e)).cell? ((⟨u.heap.size, 0, none⟩ : Addr).add j) = some v := by
  intro j v hj
  rw [plain_add, Nat.zero_add]
  exact blk_cell (heap_alloc_new u _) j (by simpa using hj)
theorem info55 : (Try.prog.info? 55).map (fun i => (i.zero, i.size, i.bytes)) = some (some (.agg #[.int .i64 0, .bool false, .int .i64 0, .int .i64 0, .string ⟨#[]⟩, .int .i64 0, .int .i64 0, .int .u64 0, .int .i64 0, .string ⟨#[]⟩, .int .i64 0, .int .i64 0, .slice none 0 0]), 13, 136) := by kernel_rfl
theorem placeR_byt {v : Int × Int} {bs r : List Int} (h : placeR bs = some (v, r)) : r.length ≤ bs.length := placeR_len h (Nat.le_refl _)
theorem times_len {α : Type} {rd : List Int → Option (α × List Int)} (hrd : ∀ bs v r, rd bs = some (v, r) → r.length ≤ bs.length) : ∀ (k : Nat) (acc l : List α) (bs r : List Int), timesR rd k acc bs = some (l, r) → r.length ≤ bs.length
  | 0, acc, l, bs, r, h => by cases h; exact Nat.le_refl _
  | k + 1, acc, l, bs, r, h => by
    rw [timesR] at h
    split at h
    · cases h
    · rename_i x r1 h1
      exact Nat.le_trans (times_len hrd k _ _ _ _ h) (hrd _ _ _ h1)
theorem many_len {α : Type} {rd : List Int → Option (α × List Int)} (hrd : ∀ bs v r, rd bs = some (v, r) → r.length ≤ bs.length) {l : List α} {bs r : List Int} (h : manyR rd bs = some (l, r)) : r.length ≤ bs.length := by
  unfold manyR at h
  split at h
  · cases h
  · rename_i n r1 h1
    exact Nat.le_trans (times_len hrd _ _ _ _ _ h) (numR_len h1 (Nat.le_refl _))
theorem headR_len {v : Nd × (Int × Int)} {bs r : List Int} (h : headR bs = some (v, r)) : r.length ≤ bs.length := by
  unfold headR at h
  split at h
  · cases h
  · rename_i n r1 h1
    split at h
    · cases h
    · rename_i b r2 h2
      split at h
      · split at h
        · cases h
        · rename_i p r3 h3
          cases h
          refine Nat.le_trans (placeR_byt h3) ?_
          unfold rowR at h2
          split at h2
          · cases h2; rw [List.length_drop]; exact Nat.le_trans (Nat.sub_le _ _) (numR_len h1 (Nat.le_refl _))
          · cases h2
      · cases h
theorem objR_len {v : Ob} {bs r : List Int} (h : objR bs = some (v, r)) : r.length ≤ bs.length := by
  have hc : ∀ bs v r, chkR bs = some (v, r) → r.length ≤ bs.length := fun bs v r h => chkR_len h (Nat.le_refl _)
  unfold objR at h
  split at h
  · cases h
  · rename_i id r1 h1
    have l1 := numR_len h1 (Nat.le_refl _)
    split at h
    · cases h
    · rename_i r2 h2
      split at h
      · cases h
      · rename_i ch r3 h3
        cases h
        exact Nat.le_trans (many_len hc h3) (Nat.le_trans (flagR_len h2 (Nat.le_refl _)) l1)
    · rename_i r2 h2
      split at h
      · cases h
      · rename_i nd p r3 h3
        split at h
        · cases h
        · rename_i ch r4 h4
          cases h
          exact Nat.le_trans (many_len hc h4) (Nat.le_trans (headR_len h3) (Nat.le_trans (flagR_len h2 (Nat.le_refl _)) l1))

/-- A list of objects in a row of its own, each with its chunks. -/
def RowOb (w : World) (l : List Ob) (val : Value) (u : World) : Prop := ∃ ls : List (Ob × Value), ls.map Prod.fst = l ∧ u.ownsRow w.heap.size 55 13 val l.length (flatO ls) ∧ ObsOk u w.heap.size ls ∧ l.length ≤ 4294967296

set_option maxHeartbeats 4000000 in
set_option maxRecDepth 100000 in
theorem manyOb_any (B q : Nat) (rest : List Int) (w : World) (hR : RdAt w B q rest) (hl : rest.length ≤ 140737488355000) :
    Calls Try.prog 38 #[.pointer (some ⟨q, 0, none⟩), .func (.func 39) #[.pointer (some ⟨q, 0, none⟩)] #[]] w (Left w B q (manyR objR rest) (RowOb w)) := by
  obtain ⟨i0, hi0, hz0, hz1, hz2⟩ := info_parts info55
  have HI : Hid (Try.prog.info? 55 = some i0 ∧ i0.zero = some (.agg #[.int .i64 0, .bool false, .int .i64 0, .int .i64 0, .string ⟨#[]⟩, .int .i64 0, .int .i64 0, .int .u64 0, .int .i64 0, .string ⟨#[]⟩, .int .i64 0, .int .i64 0, .slice none 0 0]) ∧ i0.size = 13 ∧ i0.bytes = 136) := ⟨hi0, hz0, hz1, hz2⟩
  have HS0 := hide (Mno.start hR)
  have HB := hide hR.byt
  have HL := hide hl
  clear hR hl hi0 hz0 hz1 hz2
  go_enter Try.func38, Try.ntmps38
  go_wp2_with (first
    | (have h9 := HS0; clear h9; go_at_call 34; refine (num_any B q 4 rest _ HS0.out.m.rd HL.out (by omega) (by omega)).mono ?_; intro e u1 lf
       rcases h1 : numR 4 rest with _ | ⟨n, r1⟩
       · rw [h1] at lf; obtain ⟨rfl, g⟩ := lf
         exact ⟨rfl, left_err (many_none h1) g⟩
       rw [h1] at lf; obtain ⟨val, rfl, rfl, rd, g⟩ := lf
       have hn := numR_range h1 HB.out
       have HS1 := hide (HS0.out.call g rd)
       have HL1 := hide (numR_len h1 HL.out)
       have HM := hide (many_some (rd := objR) h1)
       clear HS0 rd g h1))
  have e4 : (256 : Int) ^ 4 = 4294967296 := by decide
  rw [e4] at hn
  clear e4
  go_loopw [5, 8] (fun s5 s8 wr => ∃ (k : Nat) (l : List Ob) (ls : List (Ob × Value)) (r : List Int), (k : Int) ≤ n ∧ s8 = .int .u64 k ∧ l.length = k ∧ ls.map Prod.fst = l ∧ Mno w wr B q s5 k ls r ∧ r.length ≤ 140737488355000 ∧ manyR objR rest = timesR objR (n.toNat - k) l r)
    (fun _ s8 _ => n.toNat - (intOf s8).toNat)
  case atStart => exact ⟨0, [], [], r1, by omega, rfl, rfl, rfl, HS1.out, HL1.out, HM.out⟩
  case round =>
    obtain ⟨k, l, ls, r, hk, rfl, hlk, hls, hM, hr, hP⟩ := hrel
    have HLK := hide hlk
    have HLS := hide hls
    have HMr := hide hM
    have HR2 := hide hr
    have HP := hide hP
    clear hlk hM hr hP HS1 HM hls
    by_cases hlt : (k : Int) < n
    · have HTK := hide (show n.toNat - k = n.toNat - (k + 1) + 1 by omega)
      go_wp2_with (first
        | (have h9 := HMr; clear h9; go_at_call 39; refine (obj_any B q r _ HMr.out.m.rd HR2.out).mono ?_; intro e u2 lf
           rcases h2 : objR r with _ | ⟨⟨id, hd, ⟨xk, xp, xN, xz, xm, xs, xh, xT⟩, ⟨p1, p2⟩, ch⟩, r2⟩
           · rw [h2] at lf; obtain ⟨rfl, g⟩ := lf
             exact ⟨rfl, left_err (by rw [HP.out, HTK.out, times_none h2]) (grownBy_trans HMr.out.m.gr g)⟩
           rw [h2] at lf; obtain ⟨val, rfl, ⟨vv, hval, own, hle⟩, rd, g⟩ := lf
           obtain ⟨va, vc, rfl⟩ := own_slice own
           obtain rfl : val = .agg #[.int .i64 id, .bool hd, .int .i64 xk, .int .i64 xp, .string xN, .int .i64 xz, .int .i64 xm, .int .u64 xs, .int .i64 xh, .string xT, .int .i64 p1, .int .i64 p2, .slice va ch.length vc] := hval
           have ha := HMr.out.call g rd
           have HM2 := hide (ha.alloc (.cells #[.int .i64 id, .bool hd, .int .i64 xk, .int .i64 xp, .string xN, .int .i64 xz, .int .i64 xm, .int .u64 xs, .int .i64 xh, .string xT, .int .i64 p1, .int .i64 p2, .slice va ch.length vc] 55))
           have HOW := hide (own_oth (own_low own HMr.out.m.gr.size) (grown_of (below_alloc u2 (.cells #[.int .i64 id, .bool hd, .int .i64 xk, .int .i64 xp, .string xN, .int .i64 xz, .int .i64 xm, .int .u64 xs, .int .i64 xh, .string xT, .int .i64 p1, .int .i64 p2, .slice va ch.length vc] 55)) none) (oth_none u2 w.heap.size 71) (Nat.le_refl _))
           have HLR := hide (Nat.le_trans (objR_len h2) HR2.out)
           have HP2 := hide (show manyR objR rest = timesR objR (n.toNat - (k + 1)) (l ++ [⟨id, hd, ⟨xk, xp, xN, xz, xm, xs, xh, xT⟩, (p1, p2), ch⟩]) r2 from HP.out.trans (by rw [HTK.out, times_some h2]))
           clear HMr rd g h2 HP HR2 HTK ha own hle)
        | (at_builtin; refine wpList_append_own (u2.alloc (.cells #[.int .i64 id, .bool hd, .int .i64 xk, .int .i64 xp, .string xN, .int .i64 xz, .int .i64 xm, .int .u64 xs, .int .i64 xh, .string xT, .int .i64 p1, .int .i64 p2, .slice va ch.length vc] 55)) rfl (.tmp 10) (.tmp 13) 25 rfl w.heap.size 55 i0 _ 13 136 Try.underlying25 HI.out.1 HI.out.2.1 HI.out.2.2.1 HI.out.2.2.2 rfl (by decide) u5 k (flatO ls) rfl HM2.out.m.own ⟨u2.heap.size, 0, none⟩ 1 1 [.int .i64 id, .bool hd, .int .i64 xk, .int .i64 xp, .string xN, .int .i64 xz, .int .i64 xm, .int .u64 xs, .int .i64 xh, .string xT, .int .i64 p1, .int .i64 p2, .slice va ch.length vc] rfl rfl (list_news u2 55 [.int .i64 id, .bool hd, .int .i64 xk, .int .i64 xp, .string xN, .int .i64 xz, .int .i64 xm, .int .u64 xs, .int .i64 xh, .string xT, .int .i64 p1, .int .i64 p2, .slice va ch.length vc]) (by simp [Value.oneCell']) (by simp only [maxLen]; omega) (by omega) HM2.out.m.gr.size ?_; intro v8 t8 own8 grow8 _h8
           have HM8 := hide (HM2.out.push (⟨id, hd, ⟨xk, xp, xN, xz, xm, xs, xh, xT⟩, (p1, p2), ch⟩, .slice va ch.length vc) HOW.out grow8 own8)
           clear own8 grow8 _h8))
      go_roundw
      case rel => exact ⟨k + 1, l ++ [⟨id, hd, ⟨xk, xp, xN, xz, xm, xs, xh, xT⟩, (p1, p2), ch⟩], ls ++ [(⟨id, hd, ⟨xk, xp, xN, xz, xm, xs, xh, xT⟩, (p1, p2), ch⟩, .slice va ch.length vc)], r2, by omega, by go_num, by have := HLK.out; simp; omega, by rw [List.map_append, HLS.out]; rfl, HM8.out, HLR.out, HP2.out⟩
      case measure => simp [intOf]; omega
    · have hkn : n.toNat - k = 0 := by omega
      have HK0 := hide hkn
      have dk : decide ((k : Int) < n) = false := decide_eq_false hlt
      go_wp2
      go_ret
      have hP9 := HP.out
      rw [HK0.out] at hP9
      refine left_ok (hP9.trans rfl) ⟨ls, HLS.out, ?_, HMr.out.ok, by have := HLK.out; omega⟩ HMr.out.m.rd HMr.out.m.gr
      rw [HLK.out]; exact HMr.out.m.own
end Go.Proofs.Ytoaahellfflooaa
