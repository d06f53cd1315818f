/-
  SEAT Ytoaahellfflooaa: many blocks, many chunks.
-/
import Derived.Test.YtoaahellfflooaaPb
import Derived.Laws.OwnMore
namespace Go.Proofs.Ytoaahellfflooaa
open Go.RowKit
set_option linter.unusedVariables false

theorem chkR_len {m : Nat} {v : Chk} {bs r : List Int} (h : chkR bs = some (v, r)) (hm : bs.length ≤ m) : r.length ≤ m := by
  unfold chkR at h
  split at h
  · cases h
  · rename_i h1
    split at h
    · cases h
    · rename_i h2
      split at h
      · cases h
      · rename_i h3
        cases h; exact numR_len h3 (placeR_len h2 (numR_len h1 hm))
theorem blkR_len {m : Nat} {v : Blk} {bs r : List Int} (h : blkR bs = some (v, r)) (hm : bs.length ≤ m) : r.length ≤ m := by
  unfold blkR at h
  split at h
  · cases h
  · rename_i h1
    split at h
    · cases h
    · rename_i h2
      split at h
      · cases h
      · rename_i h3
        split at h
        · cases h
        · rename_i h4
          cases h; exact numR_len h4 (flagR_len h3 (numR_len h2 (numR_len h1 hm)))
/-- So many things, one behind the other. -/
def timesR {α : Type} (rd : List Int → Option (α × List Int)) : Nat → List α → List Int → Option (List α × List Int)
  | 0, acc, bs => some (acc, bs)
  | k + 1, acc, bs => match rd bs with
    | none => none
    | some (x, r) => timesR rd k (acc ++ [x]) r
def manyR {α : Type} (rd : List Int → Option (α × List Int)) (bs : List Int) : Option (List α × List Int) := match numR 4 bs with
  | none => none
  | some (n, r) => timesR rd n.toNat [] r
section
variable {α : Type} {rd : List Int → Option (α × List Int)} {k : Nat} {acc : List α} {bs r : List Int} {x : α} {n : Int}
theorem times_none (h : rd bs = none) : timesR rd (k + 1) acc bs = none := by rw [timesR, h]
theorem times_some (h : rd bs = some (x, r)) : timesR rd (k + 1) acc bs = timesR rd k (acc ++ [x]) r := by rw [timesR, h]
theorem many_none (h : numR 4 bs = none) : manyR rd bs = none := by unfold manyR; rw [h]
theorem many_some (h : numR 4 bs = some (n, r)) : manyR rd bs = timesR rd n.toNat [] r := by unfold manyR; rw [h]
end
theorem numR_range {n : Nat} {v : Int} {bs r : List Int} (h : numR n bs = some (v, r)) (hb : Byt bs) : 0 ≤ v ∧ v < 256 ^ n := by
  rw [(numR_some h).2.1]; exact getL_range hb 0 n

/-- A row that grows beside the reader. -/
structure Mny (w u : World) (B q : Nat) (e : TypeId) (size : Nat) (v : Value) (n : Nat) (cs : List Value) (rest : List Int) : Prop where
  rd : RdAt u B q rest
  own : u.ownsRow w.heap.size e size v n cs
  gr : w.grownBy u (some q)
  lt : B ≤ q ∧ q < w.heap.size
section
variable {w u u' : World} {B q : Nat} {e : TypeId} {size : Nat} {v v' : Value} {n m : Nat} {cs ds : List Value} {rest r2 : List Int}
theorem Mny.start (hR : RdAt w B q rest) : Mny w w B q e size (.slice none 0 0) 0 [] rest := ⟨hR, World.ownsRow_nil w _ e size, World.grownBy.refl _ _, hR.lt⟩
theorem Mny.call (h : Mny w u B q e size v n cs rest) (g : u.grownBy u' (some q)) (r : RdAt u' B q r2) : Mny w u' B q e size v n cs r2 := by
  refine ⟨r, h.own.kept g ?_, grownBy_trans h.gr g, h.lt⟩
  cases hv : v.ownBlock with
  | none => exact Or.inl rfl
  | some k => exact Or.inr (fun e => by have := (h.own.lt k hv).1; have := Option.some.inj e; have := h.lt; omega)
theorem Mny.alloc (h : Mny w u B q e size v n cs rest) (b : Obj) : Mny w (u.alloc b) B q e size v n cs rest := by
  refine ⟨h.rd.below (below_alloc u _), h.own.kept (grown_of (below_alloc u b) none) ?_, grownBy_trans h.gr (grown_of (below_alloc u _) _), h.lt⟩
  cases v.ownBlock with
  | none => exact Or.inl rfl
  | some k => exact Or.inr (fun e => by cases e)
theorem Mny.push (h : Mny w u B q e size v n cs rest) (hg : u.grownBy u' v.ownBlock) (ho : u'.ownsRow w.heap.size e size v' m ds) : Mny w u' B q e size v' m ds rest := by
  have hl := h.lt
  have hlow : ∀ k, v.ownBlock = some k → w.heap.size ≤ k := fun k hk => (h.own.lt k hk).1
  refine ⟨h.rd.other hg (fun e => by have := hlow q e; omega) (fun i e => by have := hlow i e; omega), ho, ?_, h.lt⟩
  refine ⟨hg.os.trans h.gr.os, hg.tape.trans h.gr.tape, hg.output.trans h.gr.output, Nat.le_trans h.gr.size hg.size, fun j hj hne => (hg.block j (Nat.lt_of_lt_of_le hj h.gr.size) (fun e => by have := hlow j e.symm; omega)).trans (h.gr.block j hj hne)⟩
end
theorem lit4_news (u : World) (e : TypeId) (x0 x1 x2 x3 : Value) : ∀ j v, [x0, x1, x2, x3][j]? = some v → (u.alloc (.cells #[x0, x1, x2, x3] e)).cell? ((⟨u.heap.size, 0, none⟩ : Addr).add j) = some v := by
  intro j v hj
  rw [plain_add, Nat.zero_add]
  exact blk_cell (heap_alloc_new u _) j (by simpa using hj)

def flatChk (l : List Chk) : List Value := l.flatMap Chk.cells
theorem flatChk_add (l : List Chk) (x : Chk) : flatChk (l ++ [x]) = flatChk l ++ x.cells := by simp [flatChk]
theorem info71 : (Try.prog.info? 71).map (fun i => (i.zero, i.size, i.bytes)) = some (some (.agg #[.int .i64 0, .int .i64 0, .int .i64 0, .int .i64 0]), 4, 32) := by kernel_rfl
/-- A list of them in a row of its own. -/
def RowChk (w : World) (l : List Chk) (val : Value) (u : World) : Prop := u.ownsRow w.heap.size 71 4 val l.length (flatChk l) ∧ l.length ≤ 4294967296

set_option maxHeartbeats 4000000 in
set_option maxRecDepth 100000 in
theorem manyChk_any (B q : Nat) (rest : List Int) (w : World) (hR : RdAt w B q rest) (hl : rest.length ≤ 140737488355000) :
    Calls Try.prog 56 #[.pointer (some ⟨q, 0, none⟩), .func (.func 57) #[.pointer (some ⟨q, 0, none⟩)] #[]] w (Left w B q (manyR chkR rest) (RowChk w)) := by
  obtain ⟨i0, hi0, hz0, hz1, hz2⟩ := info_parts info71
  have HI : Hid (Try.prog.info? 71 = some i0 ∧ i0.zero = some (.agg #[.int .i64 0, .int .i64 0, .int .i64 0, .int .i64 0]) ∧ i0.size = 4 ∧ i0.bytes = 32) := ⟨hi0, hz0, hz1, hz2⟩
  have HS0 := hide (Mny.start (e := 71) (size := 4) hR)
  have HB := hide hR.byt
  have HL := hide hl
  clear hR hl hi0 hz0 hz1 hz2
  go_enter Try.func56, Try.ntmps56
  go_wp2_with (first
    | (have h9 := HS0; clear h9; go_at_call 34; refine (num_any B q 4 rest _ HS0.out.rd HL.out (by omega) (by omega)).mono ?_; intro e u1 lf
       rcases h1 : numR 4 rest with _ | ⟨n, r1⟩
       · rw [h1] at lf; obtain ⟨rfl, g⟩ := lf
         exact ⟨rfl, left_err (many_none h1) g⟩
       rw [h1] at lf; obtain ⟨val, rfl, rfl, rd, g⟩ := lf
       have hn := numR_range h1 HB.out
       have HS1 := hide (HS0.out.call g rd)
       have HL1 := hide (numR_len h1 HL.out)
       have HM := hide (many_some (rd := chkR) h1)
       clear HS0 rd g h1))
  have e4 : (256 : Int) ^ 4 = 4294967296 := by decide
  rw [e4] at hn
  clear e4
  go_loopw [5, 8] (fun s5 s8 wr => ∃ (k : Nat) (l : List Chk) (r : List Int), (k : Int) ≤ n ∧ s8 = .int .u64 k ∧ l.length = k ∧ Mny w wr B q 71 4 s5 k (flatChk l) r ∧ r.length ≤ 140737488355000 ∧ manyR chkR rest = timesR chkR (n.toNat - k) l r)
    (fun _ s8 _ => n.toNat - (intOf s8).toNat)
  case atStart => exact ⟨0, [], r1, by omega, rfl, rfl, HS1.out, HL1.out, HM.out⟩
  case round =>
    obtain ⟨k, l, r, hk, rfl, hlk, hM, hr, hP⟩ := hrel
    have HLK := hide hlk
    have HMr := hide hM
    have HR2 := hide hr
    have HP := hide hP
    clear hlk hM hr hP HS1 HM
    by_cases hlt : (k : Int) < n
    · have HTK := hide (show n.toNat - k = n.toNat - (k + 1) + 1 by omega)
      go_wp2_with (first
        | (have h9 := HMr; clear h9; go_at_call 57; refine (chk_any B q r _ HMr.out.rd HR2.out).mono ?_; intro e u2 lf
           rcases h2 : chkR r with _ | ⟨⟨x0, x1, x2⟩, r2⟩
           · rw [h2] at lf; obtain ⟨rfl, g⟩ := lf
             exact ⟨rfl, left_err (by rw [HP.out, HTK.out, times_none h2]) (grownBy_trans HMr.out.gr g)⟩
           rw [h2] at lf; obtain ⟨val, rfl, hval, rd, g⟩ := lf
           obtain rfl : val = .agg #[.int .i64 x0, .int .i64 x1.1, .int .i64 x1.2, .int .i64 x2] := hval
           have HM2 := hide ((HMr.out.call g rd).alloc (.cells #[.int .i64 x0, .int .i64 x1.1, .int .i64 x1.2, .int .i64 x2] 71))
           have HLR := hide (chkR_len h2 HR2.out)
           have HP2 := hide (show manyR chkR rest = timesR chkR (n.toNat - (k + 1)) (l ++ [⟨x0, x1, x2⟩]) r2 from HP.out.trans (by rw [HTK.out, times_some h2]))
           have hu2 : u2.heap.size = u2.heap.size := rfl
           clear HMr rd g h2 HP HR2 HTK)
        | (at_builtin; refine wpList_append_own (u2.alloc (.cells #[.int .i64 x0, .int .i64 x1.1, .int .i64 x1.2, .int .i64 x2] 71)) rfl (.tmp 10) (.tmp 13) 53 rfl w.heap.size 71 i0 _ 4 32 Try.underlying53 HI.out.1 HI.out.2.1 HI.out.2.2.1 HI.out.2.2.2 rfl (by decide) u5 k (flatChk l) rfl HM2.out.own ⟨u2.heap.size, 0, none⟩ 1 1 [.int .i64 x0, .int .i64 x1.1, .int .i64 x1.2, .int .i64 x2] rfl rfl (lit4_news u2 71 (.int .i64 x0) (.int .i64 x1.1) (.int .i64 x1.2) (.int .i64 x2)) (by simp [Value.oneCell']) (by simp only [maxLen]; omega) (by omega) HM2.out.gr.size ?_; intro v8 t8 own8 grow8 _h8
           have HM8 := hide (HM2.out.push grow8 own8)
           clear own8 grow8 _h8))
      go_roundw
      case rel => exact ⟨k + 1, l ++ [⟨x0, x1, x2⟩], r2, by omega, by go_num, by have := HLK.out; simp; omega, by rw [flatChk_add]; exact HM8.out, HLR.out, HP2.out⟩
      case measure => simp [intOf]; omega
    · have hkn : n.toNat - k = 0 := by omega
      have HK0 := hide hkn
      have dk : decide ((k : Int) < n) = false := decide_eq_false hlt
      go_wp2
      go_ret
      have hP9 := HP.out
      rw [HK0.out] at hP9
      refine left_ok (hP9.trans rfl) ⟨?_, by have := HLK.out; omega⟩ HMr.out.rd HMr.out.gr
      rw [HLK.out]; exact HMr.out.own

def flatBlk (l : List Blk) : List Value := l.flatMap Blk.cells
theorem flatBlk_add (l : List Blk) (x : Blk) : flatBlk (l ++ [x]) = flatBlk l ++ x.cells := by simp [flatBlk]
theorem info48 : (Try.prog.info? 48).map (fun i => (i.zero, i.size, i.bytes)) = some (some (.agg #[.int .i64 0, .int .u64 0, .bool false, .int .i64 0]), 4, 32) := by kernel_rfl
/-- A list of them in a row of its own. -/
def RowBlk (w : World) (l : List Blk) (val : Value) (u : World) : Prop := u.ownsRow w.heap.size 48 4 val l.length (flatBlk l) ∧ l.length ≤ 4294967296

set_option maxHeartbeats 4000000 in
set_option maxRecDepth 100000 in
theorem manyBlk_any (B q : Nat) (rest : List Int) (w : World) (hR : RdAt w B q rest) (hl : rest.length ≤ 140737488355000) :
    Calls Try.prog 36 #[.pointer (some ⟨q, 0, none⟩), .func (.func 37) #[.pointer (some ⟨q, 0, none⟩)] #[]] w (Left w B q (manyR blkR rest) (RowBlk w)) := by
  obtain ⟨i0, hi0, hz0, hz1, hz2⟩ := info_parts info48
  have HI : Hid (Try.prog.info? 48 = some i0 ∧ i0.zero = some (.agg #[.int .i64 0, .int .u64 0, .bool false, .int .i64 0]) ∧ i0.size = 4 ∧ i0.bytes = 32) := ⟨hi0, hz0, hz1, hz2⟩
  have HS0 := hide (Mny.start (e := 48) (size := 4) hR)
  have HB := hide hR.byt
  have HL := hide hl
  clear hR hl hi0 hz0 hz1 hz2
  go_enter Try.func36, Try.ntmps36
  go_wp2_with (first
    | (have h9 := HS0; clear h9; go_at_call 34; refine (num_any B q 4 rest _ HS0.out.rd HL.out (by omega) (by omega)).mono ?_; intro e u1 lf
       rcases h1 : numR 4 rest with _ | ⟨n, r1⟩
       · rw [h1] at lf; obtain ⟨rfl, g⟩ := lf
         exact ⟨rfl, left_err (many_none h1) g⟩
       rw [h1] at lf; obtain ⟨val, rfl, rfl, rd, g⟩ := lf
       have hn := numR_range h1 HB.out
       have HS1 := hide (HS0.out.call g rd)
       have HL1 := hide (numR_len h1 HL.out)
       have HM := hide (many_some (rd := blkR) h1)
       clear HS0 rd g h1))
  have e4 : (256 : Int) ^ 4 = 4294967296 := by decide
  rw [e4] at hn
  clear e4
  go_loopw [5, 8] (fun s5 s8 wr => ∃ (k : Nat) (l : List Blk) (r : List Int), (k : Int) ≤ n ∧ s8 = .int .u64 k ∧ l.length = k ∧ Mny w wr B q 48 4 s5 k (flatBlk l) r ∧ r.length ≤ 140737488355000 ∧ manyR blkR rest = timesR blkR (n.toNat - k) l r)
    (fun _ s8 _ => n.toNat - (intOf s8).toNat)
  case atStart => exact ⟨0, [], r1, by omega, rfl, rfl, HS1.out, HL1.out, HM.out⟩
  case round =>
    obtain ⟨k, l, r, hk, rfl, hlk, hM, hr, hP⟩ := hrel
    have HLK := hide hlk
    have HMr := hide hM
    have HR2 := hide hr
    have HP := hide hP
    clear hlk hM hr hP HS1 HM
    by_cases hlt : (k : Int) < n
    · have HTK := hide (show n.toNat - k = n.toNat - (k + 1) + 1 by omega)
      go_wp2_with (first
        | (have h9 := HMr; clear h9; go_at_call 37; refine (blk_any B q r _ HMr.out.rd HR2.out).mono ?_; intro e u2 lf
           rcases h2 : blkR r with _ | ⟨⟨x0, x1, x2, x3⟩, r2⟩
           · rw [h2] at lf; obtain ⟨rfl, g⟩ := lf
             exact ⟨rfl, left_err (by rw [HP.out, HTK.out, times_none h2]) (grownBy_trans HMr.out.gr g)⟩
           rw [h2] at lf; obtain ⟨val, rfl, hval, rd, g⟩ := lf
           obtain rfl : val = .agg #[.int .i64 x0, .int .u64 x1, .bool x2, .int .i64 x3] := hval
           have HM2 := hide ((HMr.out.call g rd).alloc (.cells #[.int .i64 x0, .int .u64 x1, .bool x2, .int .i64 x3] 48))
           have HLR := hide (blkR_len h2 HR2.out)
           have HP2 := hide (show manyR blkR rest = timesR blkR (n.toNat - (k + 1)) (l ++ [⟨x0, x1, x2, x3⟩]) r2 from HP.out.trans (by rw [HTK.out, times_some h2]))
           have hu2 : u2.heap.size = u2.heap.size := rfl
           clear HMr rd g h2 HP HR2 HTK)
        | (at_builtin; refine wpList_append_own (u2.alloc (.cells #[.int .i64 x0, .int .u64 x1, .bool x2, .int .i64 x3] 48)) rfl (.tmp 10) (.tmp 13) 24 rfl w.heap.size 48 i0 _ 4 32 Try.underlying24 HI.out.1 HI.out.2.1 HI.out.2.2.1 HI.out.2.2.2 rfl (by decide) u5 k (flatBlk l) rfl HM2.out.own ⟨u2.heap.size, 0, none⟩ 1 1 [.int .i64 x0, .int .u64 x1, .bool x2, .int .i64 x3] rfl rfl (lit4_news u2 48 (.int .i64 x0) (.int .u64 x1) (.bool x2) (.int .i64 x3)) (by simp [Value.oneCell']) (by simp only [maxLen]; omega) (by omega) HM2.out.gr.size ?_; intro v8 t8 own8 grow8 _h8
           have HM8 := hide (HM2.out.push grow8 own8)
           clear own8 grow8 _h8))
      go_roundw
      case rel => exact ⟨k + 1, l ++ [⟨x0, x1, x2, x3⟩], r2, by omega, by go_num, by have := HLK.out; simp; omega, by rw [flatBlk_add]; exact HM8.out, HLR.out, HP2.out⟩
      case measure => simp [intOf]; omega
    · have hkn : n.toNat - k = 0 := by omega
      have HK0 := hide hkn
      have dk : decide ((k : Int) < n) = false := decide_eq_false hlt
      go_wp2
      go_ret
      have hP9 := HP.out
      rw [HK0.out] at hP9
      refine left_ok (hP9.trans rfl) ⟨?_, by have := HLK.out; omega⟩ HMr.out.rd HMr.out.gr
      rw [HLK.out]; exact HMr.out.own
end Go.Proofs.Ytoaahellfflooaa
