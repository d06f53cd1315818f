/-
  SEAT Ytoaahellfflooaa.
-/
import Derived.Test.YtoaahellfflooaaVEa
namespace Go.Proofs.Ytoaahellfflooaa
open Go.RowKit
set_option linter.unusedVariables false

def rg (n a b : Int) : Bool := decide (a ≤ n ∧ n ≤ b)
theorem rg_iff {n a b : Int} : rg n a b = true ↔ a ≤ n ∧ n ≤ b := by simp [rg]
theorem rg_not {n a b : Int} : rg n a b = false ↔ n < a ∨ b < n := by simp only [rg, decide_eq_false_iff_not]; omega
theorem pw_t (n a b : Int) (w : World) (h0 : a ≤ n) (h1 : n ≤ b) : Calls Try.prog 40 #[.int .i64 n, .int .i64 a, .int .i64 b] w fun e w' => e = .returned (.bool true) ∧ w = w' := by
  go_enter Try.func40, Try.ntmps40
  go_wp2
  go_ret
  exact ⟨rfl, rfl⟩
theorem pw_f (n a b : Int) (w : World) (h : n < a ∨ b < n) : Calls Try.prog 40 #[.int .i64 n, .int .i64 a, .int .i64 b] w fun e w' => e = .returned (.bool false) ∧ w = w' := by
  by_cases h0 : a ≤ n
  · have h1 : b < n := by omega
    go_enter Try.func40, Try.ntmps40
    go_wp2
    go_ret
    exact ⟨ret_bool (decide_eq_false (by omega)), rfl⟩
  · have h1 : n < a := by omega
    go_enter Try.func40, Try.ntmps40
    go_wp2
    go_ret
    exact ⟨rfl, rfl⟩
theorem pw_any (n a b : Int) (w : World) : Calls Try.prog 40 #[.int .i64 n, .int .i64 a, .int .i64 b] w fun e w' => e = .returned (.bool (rg n a b)) ∧ w = w' := by
  cases h : rg n a b with
  | true => exact pw_t n a b w (rg_iff.1 h).1 (rg_iff.1 h).2
  | false => exact pw_f n a b w (rg_not.1 h)

def plOk (p : Int × Int) : Bool := rg p.1 0 4095 && rg p.2 0 255
def blkOk (x : Blk) : Bool := rg x.st 0 6 && (decide (x.hd ≤ 281474976710655) && rg x.lv 0 256)
theorem box_below (w : World) (b : Obj) : Below w.heap.size w (w.alloc b) := below_alloc w b

theorem place70 (p : Int × Int) (w : World) : Calls Try.prog 70 #[.agg #[.int .i64 p.1, .int .i64 p.2]] w fun e w' => e = .returned (.bool (plOk p)) ∧ Below w.heap.size w w' := by
  obtain ⟨a, b⟩ := p
  have hb := below_alloc w (.cells #[.int .i64 a, .int .i64 b] 52)
  cases h1 : rg a 0 4095 with
  | false =>
    go_enter Try.func70, Try.ntmps70
    go_wp2_with (go_at_call 40; refine (pw_any _ _ _ _).mono ?_; rintro e u ⟨rfl, rfl⟩; rw [h1])
    go_ret
    exact ⟨ret_bool (by simp [plOk, h1]), hb⟩
  | true =>
    cases h2 : rg b 0 255 with
    | _ =>
      all_goals
        go_enter Try.func70, Try.ntmps70
        go_wp2_with (go_at_call 40; refine (pw_any _ _ _ _).mono ?_; rintro e u ⟨rfl, rfl⟩; first | rw [h1] | rw [h2])
        go_ret
        exact ⟨ret_bool (by simp [plOk, h1, h2]), hb⟩

theorem block41 (x : Blk) (w : World) : Calls Try.prog 41 #[.agg #[.int .i64 x.st, .int .u64 x.hd, .bool x.re, .int .i64 x.lv]] w fun e w' => e = .returned (.bool (blkOk x)) ∧ Below w.heap.size w w' := by
  obtain ⟨a, b, c, d⟩ := x
  have hb := below_alloc w (.cells #[.int .i64 a, .int .u64 b, .bool c, .int .i64 d] 48)
  simp only
  cases h1 : rg a 0 6 with
  | false =>
    go_enter Try.func41, Try.ntmps41
    go_wp2_with (go_at_call 40; refine (pw_any _ _ _ _).mono ?_; rintro e u ⟨rfl, rfl⟩; rw [h1])
    go_ret
    exact ⟨ret_bool (by simp [blkOk, h1]), hb⟩
  | true =>
    cases h2 : decide (b ≤ 281474976710655) with
    | false =>
      go_enter Try.func41, Try.ntmps41
      go_wp2_with (go_at_call 40; refine (pw_any _ _ _ _).mono ?_; rintro e u ⟨rfl, rfl⟩; rw [h1])
      go_ret
      exact ⟨ret_bool (by simp [blkOk, h1, h2]), hb⟩
    | true =>
      cases h3 : rg d 0 256 with
      | _ =>
        all_goals
          go_enter Try.func41, Try.ntmps41
          go_wp2_with (go_at_call 40; refine (pw_any _ _ _ _).mono ?_; rintro e u ⟨rfl, rfl⟩; first | rw [h1] | rw [h3])
          go_ret
          exact ⟨ret_bool (by simp [blkOk, h1, h2, h3]), hb⟩

def ndZ (x : Nd) : Bool := (x.k == 0) && ((x.p == 0) && ((x.N.toList == (⟨#[]⟩ : ByteArray).toList) && ((x.z == 0) && ((x.m == 0) && ((x.st == 0) && ((x.h == 0) && (x.T.toList == (⟨#[]⟩ : ByteArray).toList)))))))
def plZ (p : Int × Int) : Bool := (p.1 == 0) && (p.2 == 0)
abbrev ZN : Value := .agg #[.int .i64 0, .int .i64 0, .string ⟨#[]⟩, .int .i64 0, .int .i64 0, .int .u64 0, .int .i64 0, .string ⟨#[]⟩]
theorem zeq50 (w : World) (k p : Int) (N : ByteArray) (z m st h : Int) (T : ByteArray) : (binOp .eql 50 (.agg #[.int .i64 k, .int .i64 p, .string N, .int .i64 z, .int .i64 m, .int .u64 st, .int .i64 h, .string T]) (.agg #[.int .i64 0, .int .i64 0, .string ⟨#[]⟩, .int .i64 0, .int .i64 0, .int .u64 0, .int .i64 0, .string ⟨#[]⟩])).run Try.prog w = .ok (.bool (ndZ ⟨k, p, N, z, m, st, h, T⟩)) w := eq50 w _ _ _ _ _ _ _ _ _ _ _ _ _ _ _ _
theorem zne50 (w : World) (k p : Int) (N : ByteArray) (z m st h : Int) (T : ByteArray) : (binOp .neq 50 (.agg #[.int .i64 k, .int .i64 p, .string N, .int .i64 z, .int .i64 m, .int .u64 st, .int .i64 h, .string T]) (.agg #[.int .i64 0, .int .i64 0, .string ⟨#[]⟩, .int .i64 0, .int .i64 0, .int .u64 0, .int .i64 0, .string ⟨#[]⟩])).run Try.prog w = .ok (.bool (!ndZ ⟨k, p, N, z, m, st, h, T⟩)) w := ne50 w _ _ _ _ _ _ _ _ _ _ _ _ _ _ _ _
theorem zeq52 (w : World) (a b : Int) : (binOp .eql 52 (.agg #[.int .i64 a, .int .i64 b]) (.agg #[.int .i64 0, .int .i64 0])).run Try.prog w = .ok (.bool (plZ (a, b))) w := eq52 w _ _ _ _
theorem zne52 (w : World) (a b : Int) : (binOp .neq 52 (.agg #[.int .i64 a, .int .i64 b]) (.agg #[.int .i64 0, .int .i64 0])).run Try.prog w = .ok (.bool (!plZ (a, b))) w := ne52 w _ _ _ _
def hdOk (o : Ob) : Bool := if o.hd then (o.nd.err == 0) && ((o.nd.h == 0) && plOk o.pl) else ndZ o.nd && plZ o.pl

set_option maxHeartbeats 4000000 in
set_option maxRecDepth 100000 in
theorem header58 (o : Ob) (va : Option Addr) (n vc : Nat) (w : World) (hN : o.nd.N.size ≤ 9223372036854775807) (hT : o.nd.T.size ≤ 9223372036854775807) : Calls Try.prog 58 #[.agg #[.int .i64 o.id, .bool o.hd, .int .i64 o.nd.k, .int .i64 o.nd.p, .string o.nd.N, .int .i64 o.nd.z, .int .i64 o.nd.m, .int .u64 o.nd.st, .int .i64 o.nd.h, .string o.nd.T, .int .i64 o.pl.1, .int .i64 o.pl.2, .slice va n vc]] w fun e w' => e = .returned (.bool (hdOk o)) ∧ Below w.heap.size w w' := by
  obtain ⟨id, hd, ⟨k, p, N, z, m, st, sh, T⟩, ⟨p1, p2⟩, ch⟩ := o
  simp only at hN hT ⊢
  have q50 := zeq50
  have q52 := zeq52
  have g50 := gd50
  have g52 := gd52
  have hb := below_alloc w (.cells #[.int .i64 id, .bool hd, .int .i64 k, .int .i64 p, .string N, .int .i64 z, .int .i64 m, .int .u64 st, .int .i64 sh, .string T, .int .i64 p1, .int .i64 p2, .slice va n vc] 55)
  cases hd with
  | false =>
    cases h1 : ndZ ⟨k, p, N, z, m, st, sh, T⟩ with
    | false =>
      go_enter Try.func58, Try.ntmps58
      go_wp2
      go_ret
      exact ⟨ret_bool (by simp [hdOk, h1]), hb⟩
    | true =>
      go_enter Try.func58, Try.ntmps58
      go_wp2
      go_ret
      exact ⟨ret_bool (by simp [hdOk, h1]), hb⟩
  | true =>
    have HB := hide hb
    obtain ⟨E, hE⟩ : ∃ E, nodeE k p N z m st sh T = E := ⟨_, rfl⟩
    have hE2 : Nd.err ⟨k, p, N, z, m, st, sh, T⟩ = E := hE
    have HE2 := hide hE2
    have HC := hide (fun w => (check_any k p N z m st sh T w hN hT))
    rw [hE] at HC
    clear hE hE2 hb q50 q52 g50 g52
    have keep : ∀ u u', Below u.heap.size u u' → Below w.heap.size w u → Below w.heap.size w u' := fun u u' h1 h2 => h2.trans (h1.mono h2.size)
    have HK := hide keep
    clear keep
    cases h1 : (E == 0) with
    | false =>
      go_enter Try.func58, Try.ntmps58
      go_wp2_with (go_at_call 65; refine (HC.out _).mono ?_; rintro e u ⟨rfl, b1⟩; have HB1 := hide (HK.out _ _ b1 HB.out); clear b1)
      go_ret
      exact ⟨ret_bool (by simp [hdOk, HE2.out, h1]), HB1.out⟩
    | true =>
      cases h2 : (sh == 0) with
      | false =>
        go_enter Try.func58, Try.ntmps58
        go_wp2_with (go_at_call 65; refine (HC.out _).mono ?_; rintro e u ⟨rfl, b1⟩; have hbx : u.heap[w.heap.size]? = _ := (b1.block w.heap.size (by simp)).trans (heap_alloc_new _ _); have c8 : u.cell? ⟨w.heap.size, 8, none⟩ = some (.int .i64 sh) := blk_cell hbx 8 rfl; have HB1 := hide (HK.out _ _ b1 HB.out); clear b1 hbx)
        go_ret
        exact ⟨ret_bool (by simp [hdOk, HE2.out, h1, h2]), HB1.out⟩
      | true =>
        go_enter Try.func58, Try.ntmps58
        go_wp2_with (first
          | (go_at_call 65; refine (HC.out _).mono ?_; rintro e u ⟨rfl, b1⟩; have hbx : u.heap[w.heap.size]? = _ := (b1.block w.heap.size (by simp)).trans (heap_alloc_new _ _); have c8 : u.cell? ⟨w.heap.size, 8, none⟩ = some (.int .i64 sh) := blk_cell hbx 8 rfl; have c10 : u.cell? ⟨w.heap.size, 10, none⟩ = some (.int .i64 p1) := blk_cell hbx 10 rfl; have c11 : u.cell? ⟨w.heap.size, 11, none⟩ = some (.int .i64 p2) := blk_cell hbx 11 rfl; have HB1 := hide (HK.out _ _ b1 HB.out); clear b1 hbx)
          | (go_at_call 70; refine (place70 (p1, p2) _).mono ?_; rintro e u9 ⟨rfl, b9⟩; have HB9 := hide (HK.out _ _ b9 HB1.out); clear b9))
        go_ret
        exact ⟨ret_bool (by simp [hdOk, HE2.out, h1, h2]), HB9.out⟩
end Go.Proofs.Ytoaahellfflooaa
