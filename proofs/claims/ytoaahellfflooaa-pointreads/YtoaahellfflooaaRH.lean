/-
  SEAT Ytoaahellfflooaa: lift: the walk.
-/
import Derived.Test.YtoaahellfflooaaRG
import Derived.Laws.EntriesVeiled
namespace Go.Proofs.Ytoaahellfflooaa
open Go.RowKit
set_option linter.unusedVariables false


theorem num_wrap (zs : List Int) (len : Nat) (L : Int) (size : Nat) (hz : ∀ x ∈ zs, 0 ≤ x ∧ x ≤ 255) (h : size ≤ 4) : IntKind.i64.wrap (numV zs len L size) = numV zs len L size := by
  have e : 0 ≤ numV zs len L size ∧ numV zs len L size < 4294967296 := by
    unfold numV
    split
    · have h1 := getL_range hz (atN len L) size
      have h2 := pow256_le h
      have e2 : (256 : Int) ^ 4 = 4294967296 := by decide
      omega
    · omega
  rw [IntKind.wrap_i64]
  omega
theorem giver_at (a : Option Addr) (len cap : Nat) (w : World) (X : Obj) (hl : len ≤ 140737488351300) :
    Calls Try.prog 77 #[.slice a len cap] (w.alloc X) fun e w' => e = .returned (.func (.func 81) #[] #[.pointer (some ⟨w.heap.size + 1, 0, none⟩), .pointer (some ⟨w.heap.size + 2, 0, none⟩)]) ∧ Giv w' (w.heap.size + 1) (w.heap.size + 2) a len cap len ∧ w'.heap.size = w.heap.size + 3 ∧ Below (w.heap.size + 1) (w.alloc X) w' := by
  have h := giver_any a len cap (w.alloc X) hl
  rw [show (w.alloc X).heap.size = w.heap.size + 1 by simp] at h
  exact h


set_option maxHeartbeats 4000000 in
set_option maxRecDepth 100000 in
theorem lift_any (a : Option Addr) (len cap : Nat) (zs : List Int) (k p : Int) (N : ByteArray) (z m st h : Int) (T : ByteArray) (w : World) (hr : Reads w a len zs) (hlc : len ≤ cap) (h4 : len ≤ 140737488351300) (hcm : cap ≤ 9223372036854775807) (hk : numV zs len ((len : Int)) 1 = k) (hp : numV zs len ((len : Int) - 1) 4 = p) (hz : numV zs len ((len : Int) - 5) 4 = z) (hm : numV zs len ((len : Int) - 9) 2 = m) (hst : numV zs len ((len : Int) - 11) 8 = st) (hh : numV zs len ((len : Int) - 19) 4 = h) (hN : strOfNums (pieceV zs len ((len : Int) - 23 - 1) (kV zs len)) = N) (hT : strOfNums (pieceV zs len ((len : Int) - 24 - kV zs len - 1) (tV zs len)) = T) :
    Calls Try.prog 69 #[.slice a len cap] w fun e w' => e = .returned (.tuple #[N8 k p N z m st h T, .bool ((len : Int) - 25 - kV zs len - tV zs len == 0)]) ∧ Below w.heap.size w w' := by
  have hmf : ∀ (fn : Fn) (first cap : Array Value) (w : World), (Instr.makeFunc fn first cap).run Try.prog w = .ok (.func fn first cap) w := fun _ _ _ _ => rfl
  have HR : Hid (Reads w a len zs) := hr
  have Hk : Hid _ := hk
  have Hp : Hid _ := hp
  have Hz : Hid _ := hz
  have Hm : Hid _ := hm
  have Hst : Hid _ := hst
  have Hh : Hid _ := hh
  have HN : Hid _ := hN
  have HT : Hid _ := hT
  have HLN : Hid ((len : Int) - 23 - 1 - (numV zs len ((len : Int) - 23) 1).toNat = (len : Int) - 24 - kV zs len) := by unfold Hid kV; omega
  have HLT : Hid ((len : Int) - 24 - kV zs len - 1 - (numV zs len ((len : Int) - 24 - kV zs len) 1).toNat = (len : Int) - 25 - kV zs len - tV zs len) := by unfold Hid tV; omega
  have hb := hr.2.1
  have hwk : IntKind.i64.wrap k = k := by rw [← hk]; exact num_wrap zs len _ 1 hb (by omega)
  have hwp : IntKind.i64.wrap p = p := by rw [← hp]; exact num_wrap zs len _ 4 hb (by omega)
  have hwz : IntKind.i64.wrap z = z := by rw [← hz]; exact num_wrap zs len _ 4 hb (by omega)
  have hwm : IntKind.i64.wrap m = m := by rw [← hm]; exact num_wrap zs len _ 2 hb (by omega)
  have hwh : IntKind.i64.wrap h = h := by rw [← hh]; exact num_wrap zs len _ 4 hb (by omega)
  have hkv : kV zs len ≤ 255 := by have := num_range zs len ((len : Int) - 23) hb; unfold kV; omega
  have htv : tV zs len ≤ 255 := by have := num_range zs len ((len : Int) - 24 - kV zs len) hb; unfold tV; omega
  clear hr hb hk hp hz hm hst hh hN hT
  go_enter Try.func69, Try.ntmps69
  go_wp2_with (first
    | (go_at_call 77; refine (giver_at a len cap _ _ ?_).mono ?_; omega; rintro e w1 ⟨rfl, g1, hs1, b1⟩; have s0 := li_start g1 hs1 b1; clear g1 b1 hs1)
    | (go_at_call 78; have h9 := s0; clear h9; refine (num_li (L' := (len : Int) - 1) 1 zs k s0 HR.out ?_ ?_ ?_ ?_ hlc h4 hcm ?_ Hk.out).mono ?_; omega; omega; omega; omega; omega; rintro e u1 ⟨rfl, l1⟩; have cg1 := cell_of_one l1.G; have cf1 := cell_of_one l1.F; obtain ⟨⟨y0, y1, y2, y3, y4, y5, y6, y7⟩, fz⟩ := n8_cells l1.N; have yy1 := y0; have ff1 := fz 0; clear y0 y1 y2 y3 y4 y5 y6 y7 fz; have s1 : Li w (u1.setCell ⟨w1.heap.size + 1 + 1, 0, none⟩ (.int .i64 k)) w1.heap.size a len cap ((len : Int) - 1) #[.int .i64 k, .int .i64 0, .string ⟨#[]⟩, .int .i64 0, .int .i64 0, .int .u64 0, .int .i64 0, .string ⟨#[]⟩] := l1.store 0 _; have HS1 : Hid _ := s1; clear s1 l1; clear s0)
    | (go_at_call 78; have h9 := HS1; clear h9; refine (num_li (L' := (len : Int) - 5) 4 zs p HS1.out HR.out ?_ ?_ ?_ ?_ hlc h4 hcm ?_ Hp.out).mono ?_; omega; omega; omega; omega; omega; rintro e u2 ⟨rfl, l2⟩; have cg2 := cell_of_one l2.G; have cf2 := cell_of_one l2.F; obtain ⟨⟨y0, y1, y2, y3, y4, y5, y6, y7⟩, fz⟩ := n8_cells l2.N; have yy2 := y1; have ff2 := fz 1; clear y0 y1 y2 y3 y4 y5 y6 y7 fz; have s2 : Li w (u2.setCell ⟨w1.heap.size + 1 + 1, 1, none⟩ (.int .i64 p)) w1.heap.size a len cap ((len : Int) - 5) #[.int .i64 k, .int .i64 p, .string ⟨#[]⟩, .int .i64 0, .int .i64 0, .int .u64 0, .int .i64 0, .string ⟨#[]⟩] := l2.store 1 _; have HS2 : Hid _ := s2; clear s2 l2; clear HS1 cg1 cf1 yy1 ff1)
    | (go_at_call 78; have h9 := HS2; clear h9; refine (num_li (L' := (len : Int) - 9) 4 zs z HS2.out HR.out ?_ ?_ ?_ ?_ hlc h4 hcm ?_ Hz.out).mono ?_; omega; omega; omega; omega; omega; rintro e u3 ⟨rfl, l3⟩; have cg3 := cell_of_one l3.G; have cf3 := cell_of_one l3.F; obtain ⟨⟨y0, y1, y2, y3, y4, y5, y6, y7⟩, fz⟩ := n8_cells l3.N; have yy3 := y3; have ff3 := fz 3; clear y0 y1 y2 y3 y4 y5 y6 y7 fz; have s3 : Li w (u3.setCell ⟨w1.heap.size + 1 + 1, 3, none⟩ (.int .i64 z)) w1.heap.size a len cap ((len : Int) - 9) #[.int .i64 k, .int .i64 p, .string ⟨#[]⟩, .int .i64 z, .int .i64 0, .int .u64 0, .int .i64 0, .string ⟨#[]⟩] := l3.store 3 _; have HS3 : Hid _ := s3; clear s3 l3; clear HS2 cg2 cf2 yy2 ff2)
    | (go_at_call 78; have h9 := HS3; clear h9; refine (num_li (L' := (len : Int) - 11) 2 zs m HS3.out HR.out ?_ ?_ ?_ ?_ hlc h4 hcm ?_ Hm.out).mono ?_; omega; omega; omega; omega; omega; rintro e u4 ⟨rfl, l4⟩; have cg4 := cell_of_one l4.G; have cf4 := cell_of_one l4.F; obtain ⟨⟨y0, y1, y2, y3, y4, y5, y6, y7⟩, fz⟩ := n8_cells l4.N; have yy4 := y4; have ff4 := fz 4; clear y0 y1 y2 y3 y4 y5 y6 y7 fz; have s4 : Li w (u4.setCell ⟨w1.heap.size + 1 + 1, 4, none⟩ (.int .i64 m)) w1.heap.size a len cap ((len : Int) - 11) #[.int .i64 k, .int .i64 p, .string ⟨#[]⟩, .int .i64 z, .int .i64 m, .int .u64 0, .int .i64 0, .string ⟨#[]⟩] := l4.store 4 _; have HS4 : Hid _ := s4; clear s4 l4; clear HS3 cg3 cf3 yy3 ff3)
    | (go_at_call 78; have h9 := HS4; clear h9; refine (num_li (L' := (len : Int) - 19) 8 zs st HS4.out HR.out ?_ ?_ ?_ ?_ hlc h4 hcm ?_ Hst.out).mono ?_; omega; omega; omega; omega; omega; rintro e u5 ⟨rfl, l5⟩; have cg5 := cell_of_one l5.G; have cf5 := cell_of_one l5.F; obtain ⟨⟨y0, y1, y2, y3, y4, y5, y6, y7⟩, fz⟩ := n8_cells l5.N; have yy5 := y5; have ff5 := fz 5; clear y0 y1 y2 y3 y4 y5 y6 y7 fz; have s5 : Li w (u5.setCell ⟨w1.heap.size + 1 + 1, 5, none⟩ (.int .u64 st)) w1.heap.size a len cap ((len : Int) - 19) #[.int .i64 k, .int .i64 p, .string ⟨#[]⟩, .int .i64 z, .int .i64 m, .int .u64 st, .int .i64 0, .string ⟨#[]⟩] := l5.store 5 _; have HS5 : Hid _ := s5; clear s5 l5; clear HS4 cg4 cf4 yy4 ff4)
    | (go_at_call 78; have h9 := HS5; clear h9; refine (num_li (L' := (len : Int) - 23) 4 zs h HS5.out HR.out ?_ ?_ ?_ ?_ hlc h4 hcm ?_ Hh.out).mono ?_; omega; omega; omega; omega; omega; rintro e u6 ⟨rfl, l6⟩; have cg6 := cell_of_one l6.G; have cf6 := cell_of_one l6.F; obtain ⟨⟨y0, y1, y2, y3, y4, y5, y6, y7⟩, fz⟩ := n8_cells l6.N; have yy6 := y6; have ff6 := fz 6; clear y0 y1 y2 y3 y4 y5 y6 y7 fz; have s6 : Li w (u6.setCell ⟨w1.heap.size + 1 + 1, 6, none⟩ (.int .i64 h)) w1.heap.size a len cap ((len : Int) - 23) #[.int .i64 k, .int .i64 p, .string ⟨#[]⟩, .int .i64 z, .int .i64 m, .int .u64 st, .int .i64 h, .string ⟨#[]⟩] := l6.store 6 _; have HS6 : Hid _ := s6; clear s6 l6; clear HS5 cg5 cf5 yy5 ff5)
    | (go_at_call 79; have h9 := HS6; clear h9; refine (text_li (L' := (len : Int) - 24 - kV zs len) zs N HS6.out HR.out ?_ ?_ hlc h4 hcm ?_ HN.out).mono ?_; omega; omega; exact HLN.out; rintro e u7 ⟨rfl, l7⟩; have cg7 := cell_of_one l7.G; have cf7 := cell_of_one l7.F; obtain ⟨⟨y0, y1, y2, y3, y4, y5, y6, y7⟩, fz⟩ := n8_cells l7.N; have yy7 := y2; have ff7 := fz 2; clear y0 y1 y2 y3 y4 y5 y6 y7 fz; have s7 : Li w (u7.setCell ⟨w1.heap.size + 1 + 1, 2, none⟩ (.string N)) w1.heap.size a len cap ((len : Int) - 24 - kV zs len) #[.int .i64 k, .int .i64 p, .string N, .int .i64 z, .int .i64 m, .int .u64 st, .int .i64 h, .string ⟨#[]⟩] := l7.store 2 _; have HS7 : Hid _ := s7; clear s7 l7; clear HS6 cg6 cf6 yy6 ff6)
    | (go_at_call 79; have h9 := HS7; clear h9; refine (text_li (L' := (len : Int) - 25 - kV zs len - tV zs len) zs T HS7.out HR.out ?_ ?_ hlc h4 hcm ?_ HT.out).mono ?_; omega; omega; exact HLT.out; rintro e u8 ⟨rfl, l8⟩; have cg8 := cell_of_one l8.G; have cf8 := cell_of_one l8.F; obtain ⟨⟨y0, y1, y2, y3, y4, y5, y6, y7⟩, fz⟩ := n8_cells l8.N; have yy8 := y7; have ff8 := fz 7; clear y0 y1 y2 y3 y4 y5 y6 y7 fz; have s8 : Li w (u8.setCell ⟨w1.heap.size + 1 + 1, 7, none⟩ (.string T)) w1.heap.size a len cap ((len : Int) - 25 - kV zs len - tV zs len) #[.int .i64 k, .int .i64 p, .string N, .int .i64 z, .int .i64 m, .int .u64 st, .int .i64 h, .string T] := l8.store 7 _; have HS8 : Hid _ := s8; clear s8 l8; clear HS7 cg7 cf7 yy7 ff7)
    | (go_at_call 81; have h9 := HS8; clear h9; refine (give_li zs HS8.out HR.out ?_ ?_ ?_ hlc h4 hcm).mono ?_; omega; omega; omega; rintro e u9 ⟨⟨gx, gn, gc, rfl⟩, l9⟩; obtain ⟨⟨y0, y1, y2, y3, y4, y5, y6, y7⟩, fz⟩ := n8_cells l9.N; clear fz; obtain ⟨⟨z0, z1, z2, z3, z4, z5, z6, z7⟩, fz⟩ := n8_cells l9.R; have f0 := fz 0; have f1 := fz 1; have f2 := fz 2; have f3 := fz 3; have f4 := fz 4; have f5 := fz 5; have f6 := fz 6; have f7 := fz 7; have HS9 : Hid _ := l9; clear fz l9 HS8 cg8 cf8 yy8 ff8))
  refine bodyPost_ret (v := .tuple #[N8 k p N z m st h T, .bool ((len : Int) - 25 - kV zs len - tV zs len == 0)]) (resL (over8 k p N z m st h T HS9.out.R) rfl rfl) rfl ⟨rfl, ?_⟩
  exact bov8 k p N z m st h T HS9.out.bel (Nat.le_refl _)

end Go.Proofs.Ytoaahellfflooaa
