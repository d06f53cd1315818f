/-
  SEAT YtdiifegljonojaaDoor: the reference's put, Sealed.
-/
import Derived.Test.YtdiifegljonojaaDoorSf
namespace Go.Proofs.YtdiifegljonojaaDoor
open Go.RowKit
set_option linter.unusedVariables false

theorem reads_new (u : World) (zs : List Int) (hb : Byt zs) : Reads (u.alloc (.cells (zs.map (Value.int .u8)).toArray 5)) (some ⟨u.heap.size, 0, none⟩) zs.length zs := by
  refine ⟨rfl, hb, by simp, fun x hx i hi => ?_⟩
  cases hx
  rw [plain_add, Nat.zero_add]
  have h9 := heap_alloc_new u (.cells (zs.map (Value.int .u8)).toArray 5)
  simp only [World.cell?, h9]
  simp [List.getD, List.getElem?_eq_getElem hi]
/-- The last n bytes of a number, the least first. -/
def leN : Nat → Nat → List Int
  | _, 0 => []
  | x, n + 1 => ((x % 256 : Nat) : Int) :: leN (x / 256) n
theorem leN_len : ∀ (n x : Nat), (leN x n).length = n
  | 0, _ => rfl
  | n + 1, x => by simp [leN, leN_len n]
theorem leN_byt : ∀ (n x : Nat), Byt (leN x n)
  | 0, _ => by intro y hy; cases hy
  | n + 1, x => by
    intro y hy
    rcases List.mem_cons.1 hy with rfl | h
    · omega
    · exact leN_byt n _ y h
theorem leN_snoc : ∀ (k x : Nat), leN x (k + 1) = leN x k ++ [((x / 256 ^ k % 256 : Nat) : Int)]
  | 0, x => by simp [leN]
  | k + 1, x => by
    rw [leN, leN_snoc k (x / 256), leN, List.cons_append, Nat.div_div_eq_div_mul, Nat.pow_succ, Nat.mul_comm (256 ^ k) 256]

set_option maxHeartbeats 2000000 in
set_option maxRecDepth 100000 in
theorem put_any (x : Nat) (w : World) (hx : x < 4294967296) : Calls Tryd.prog 17 #[.int .u64 (x : Int), .int .i64 4] w fun e w' => ∃ v, e = .returned v ∧ DtOn w' w.heap.size v (leN x 4) ∧ Below w.heap.size w w' := by
  go_enter Tryd.func17, Tryd.ntmps17
  go_wp2
  go_loopg [0, 5, 6] 4 (fun g s0 s5 s6 wr => Hid (∃ k : Nat, g + k = 4 ∧ s0 = .int .u64 ((x / 256 ^ k : Nat) : Int) ∧ s6 = .int .i64 (k : Int) ∧ (∃ a l c, s5 = .slice a l c) ∧ DtOn wr w.heap.size s5 (leN x k) ∧ Below w.heap.size w wr))
  case atStart => exact (show Hid _ from ⟨0, rfl, by simp, rfl, ⟨none, 0, 0, rfl⟩, World.ownsRow_nil _ _ _ _, Below.refl _ _⟩)
  case round =>
    obtain ⟨k, hgk, rfl, rfl, ⟨a5, l5, c5, rfl⟩, dt, bl⟩ := hrel.out
    clear hrel
    obtain ⟨y, hy⟩ : ∃ y, x / 256 ^ k = y := ⟨_, rfl⟩
    have hyx : y < 4294967296 := by rw [← hy]; exact Nat.lt_of_le_of_lt (Nat.div_le_self _ _) hx
    rw [hy]
    have HY := hide hy
    have HDT := hide dt
    have HBL := hide bl
    clear hy dt bl
    cases gk with
    | zero =>
      obtain rfl : k = 4 := by omega
      go_wp2
      go_ret
      exact ⟨_, rfl, HDT.out, HBL.out⟩
    | succ f =>
      have i1 : (k : Int) < 4 := by omega
      have w1 : IntKind.u8.wrap (y : Int) = ((y % 256 : Nat) : Int) := by rw [IntKind.wrap_u8]; omega
      have wk : IntKind.i64.wrap ((k : Int) + 1) = (k : Int) + 1 := by rw [IntKind.wrap_i64]; omega
      have HRW := hide (reads_new wr [((y % 256 : Nat) : Int)] (by intro z hz; obtain rfl := List.mem_singleton.1 hz; omega))
      have HZ := hide HBL.out.size
      have HDA := hide (DtOn.below HDT.out (below_alloc wr (.cells #[.int .u8 ((y % 256 : Nat) : Int)] 5)))
      go_wp2_with (first
        | (at_builtin; go_loud (refine wpList_append_reads rfl (.tmp 12) (.tmp 15) rfl w.heap.size _ (leN x k).length (leN x k) rfl HDA.out (some ⟨wr.heap.size, 0, none⟩) 1 1 [((y % 256 : Nat) : Int)] rfl HRW.out (by rw [leN_len]; omega) (Nat.le_trans HZ.out (by simp)) ?_); intro v8 t8 own8 grow8
           have HO8 := hide own8
           have HG8 := hide grow8
           clear own8 grow8))
      obtain ⟨a8, l8, c8, hv8⟩ : ∃ a l c, v8 = .slice a l c := by rcases HO8.out.2 with ⟨hv, _⟩ | ⟨g, cap, cur, hv, _⟩; exact ⟨_, _, _, hv⟩; exact ⟨_, _, _, hv⟩
      subst hv8
      go_roundg f
      case measure => omega
      case rel =>
        refine (show Hid _ from ⟨k + 1, by omega, ?_, by go_num, ⟨_, _, _, rfl⟩, ?_, ?_⟩)
        · rw [Nat.pow_succ, ← Nat.div_div_eq_div_mul, HY.out]; go_num
        · unfold DtOn
          rw [leN_snoc, HY.out, List.length_append]
          exact HO8.out
        · exact (HBL.out.alloc HZ.out _).grown HG8.out (by have := HZ.out; simp; omega) (fun q hq => (HDA.out.lt q hq).1)

theorem below_join {a b c : World} (h1 : Below a.heap.size a b) (h2 : Below b.heap.size b c) : Below a.heap.size a c := ⟨h2.os.trans h1.os, h2.tape.trans h1.tape, h2.output.trans h1.output, Nat.le_trans h1.size h2.size, fun k hk => (h2.block k (Nat.lt_of_lt_of_le hk h1.size)).trans (h1.block k hk)⟩
def sealL (bs : List Int) : List Int := bs ++ leN (sumL (nats bs)) 4
set_option maxHeartbeats 2000000 in
set_option maxRecDepth 100000 in
theorem rsealed_any (a : Option Addr) (n c : Nat) (bs : List Int) (w : World) (hr : Reads w a n bs) (hn : n ≤ 100000000000000) :
    Calls Tryd.prog 7 #[.slice a n c] w fun e w' => ∃ g cc, e = .returned (.slice (some ⟨g, 0, none⟩) (n + 4) cc) ∧ Own w' w.heap.size g (n + 4) cc (sealL bs) ∧ Below w.heap.size w w' := by
  obtain ⟨s, hs⟩ : ∃ s, sumL (nats bs) = s := ⟨_, rfl⟩
  have HS := hide hs
  have hs4 : s < 4294967296 := by rw [← hs]; exact sumL_lt hr.2.1
  have hl := hr.1
  have HR := hide hr
  have HR1 := hide (hr.below (below_alloc w (.cells #[] 5)))
  clear hs hr
  go_enter Tryd.func7, Tryd.ntmps7
  go_wp2_with (first
    | (go_at_call 18; refine (rsum_any _ _ _ bs _ (by omega) HR2.out).mono ?_; rintro e t2 ⟨rfl, ht2⟩; rw [← ht2, HS.out]; clear ht2)
    | (go_at_call 17; refine (put_any s _ hs4).mono ?_; rintro e t3 ⟨v3, rfl, dt3, bl3⟩; obtain ⟨a3, c3, rfl, rd3⟩ := own_any dt3 (leN_byt 4 s)
       rw [leN_len]
       have hl3 := leN_len 4 s
       rw [hl3] at rd3
       have HRD3 := hide rd3
       have HO3 := hide (DtOn.below HO1.out bl3)
       have HB3 := hide (below_join HB1.out bl3)
       clear rd3 dt3 bl3)
    | (at_builtin; go_loud (refine wpList_append_reads rfl (.tmp 4) (.tmp 5) rfl w.heap.size _ 0 [] rfl (made0 w) a n c bs rfl HR1.out (by omega) (by simp) ?_); intro v1 t1 own1 grow1
       have HO1 : Hid (DtOn t1 w.heap.size v1 bs) := (by unfold Hid DtOn; rw [hl]; simpa using own1)
       have HB1 := hide ((below_alloc w (.cells #[] 5)).grown grow1 (by simp) (fun q hq => ((made0 w).lt q hq).1))
       have HR2 := hide (HR.out.below HB1.out)
       clear own1 grow1)
    | (at_builtin; go_loud (refine wpList_append_reads rfl (.tmp 7) (.tmp 11) rfl w.heap.size _ bs.length bs rfl HO3.out a3 4 _ (leN s 4) rfl HRD3.out (by rw [hl]; omega) HB3.out.size ?_); intro v4 t4 own4 grow4
       have HO4 := hide own4
       have HG4 := hide grow4
       clear own4 grow4))
  go_ret
  have h9 : t4.ownsRow w.heap.size 5 1 v4 (n + 4) ((sealL bs).map (Value.int .u8)) := by unfold sealL; rw [HS.out]; have h8 := HO4.out; rw [hl] at h8; exact h8
  obtain ⟨g2, c2, rfl, _⟩ := own_shape h9 (by omega)
  exact ⟨g2, c2, rfl, h9, HB3.out.grown HG4.out HB3.out.size (fun q hq => (HO3.out.lt q hq).1)⟩
end Go.Proofs.YtdiifegljonojaaDoor
