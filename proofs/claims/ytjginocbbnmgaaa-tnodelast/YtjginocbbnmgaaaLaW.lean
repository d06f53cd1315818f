/-
  SEAT Ytjginocbbnmgaaa: TnodeLast, its walk.
-/
import Derived.Test.YtjginocbbnmgaaaLaP
import Derived.Test.YtjginocbbnmgaaaRiW
namespace Go.Proofs.Ytjginocbbnmgaaa
open Go.RowKit
set_option linter.unusedVariables false

set_option maxHeartbeats 16000000 in
set_option maxRecDepth 100000 in
theorem last_walk (a : Option Addr) (len cap : Nat) (ks : List Int) (ask : Int) (w : World) (hr : ReadsI w a len ks) (hs : len * 8 ≤ 140737488351232) (hask : Wf ask) :
    Calls Try.prog 6 #[.slice a len cap, .int .i64 ask] w fun e w' => e = .returned (.bool true) ∧ Below w.heap.size w w' := by
  have HR : Hid _ := hr
  have HHS : Hid _ := hs
  clear hr hs hask
  go_enter Try.func6, Try.ntmps6
  go_upto_region 3 with (first | (go_at_call 9; refine (heads_any _).mono ?_; rintro e u0 ⟨rfl, b0⟩; have B0 : Hid _ := b0; clear b0))
  have HR0 : Hid (ReadsI u0 a len ks) := ReadsI.below HR.out B0.out
  obtain ⟨M, hM⟩ : ∃ M, fillM ks len = M := ⟨_, rfl⟩
  have HM : Hid _ := hM
  have HFI : Hid _ := filled_any a len cap ks u0 HR0.out HHS.out
  obtain ⟨gt, hgt⟩ : ∃ gt, u0.heap.size = gt := ⟨_, rfl⟩
  obtain ⟨GL, hGL⟩ : ∃ GL, good ks len = GL := ⟨_, rfl⟩
  have HGL : Hid _ := hGL
  rw [hM, hgt, hGL] at HFI
  clear hM hGL
  go_upto_region 4 with (first | (go_at_call 10; refine Calls.mono HFI.out ?_; rintro e u1 ⟨h1, rfl, t1, b1⟩; have T1 : Hid _ := t1; have RR1 : Hid (ReadsI u1 a len ks) := ReadsI.below HR0.out (by rw [hgt]; exact b1); have B1 : Hid (Below w.heap.size w u1) := B0.out.trans (Below.mono (by rw [hgt]; exact b1) B0.out.size); clear t1 b1))
  clear hgt HFI HR0 HR
  go_wp2_with fail
  go_loopw [7, 8, 9] (fun s7 s8 s9 wr => ∃ i : Nat, i ≤ len ∧ s9 = .int .i64 (i : Int) ∧ s8 = .int .i64 ((good ks i : Nat) : Int) ∧ s7 = .int .i64 ((unlike ks len i : Nat) : Int) ∧ Hid (Below u1.heap.size u1 wr)) (fun _ _ i _ => len - (intOf i).toNat)
  case atStart => exact ⟨0, by omega, rfl, rfl, rfl, Below.refl _ _⟩
  case round =>
    obtain ⟨i, hi, rfl, rfl, rfl, HB⟩ := hrel
    obtain ⟨GD, hGD⟩ : ∃ GD, good ks i = GD := ⟨_, rfl⟩
    obtain ⟨UN, hUN⟩ : ∃ UN, unlike ks len i = UN := ⟨_, rfl⟩
    have HGU : Hid _ := And.intro hGD hUN
    have hgl : GD ≤ i := by rw [← hGD]; exact good_le ks i
    have hul : UN ≤ i := by rw [← hUN]; exact unlike_le ks len i
    rw [hGD, hUN]
    have HGUL : Hid _ := And.intro hgl hul
    clear hGD hUN hgl hul
    by_cases hc : i < len
    · have dc : (i : Int) < (len : Int) := by omega
      have hcells : ∃ b off, a = some ⟨b, off, none⟩ ∧ ∀ u, Below u1.heap.size u1 u → ∀ k, k < len → u.cell? ⟨b, off + k, none⟩ = some (.int .i64 (ks.getD k 0)) := by
        obtain ⟨b, off, h1, h2, h3⟩ := ReadsI.pos RR1.out (show 0 < len by omega)
        exact ⟨b, off, h1, fun u hu k hk => (hu.cell (p := ⟨b, off + k, none⟩) h2).trans (h3 k hk)⟩
      obtain ⟨b, off, rfl, hcl⟩ := hcells
      have HCL : Hid _ := hcl
      obtain ⟨xi, hxi⟩ : ∃ xi, ks.getD i 0 = xi := ⟨_, rfl⟩
      have HXI : Hid _ := hxi
      clear hcl hxi
      go_wp2_with fail
      go_loopw [10, 11, 12] (fun s10 s11 s12 wr => ∃ k : Nat, k ≤ len ∧ s12 = .int .i64 (k : Int) ∧ s10 = .int .i64 ((lastN ks i k : Nat) : Int) ∧ s11 = .bool (firstN ks i k) ∧ Hid (Below u1.heap.size u1 wr)) (fun _ _ k _ => len - (intOf k).toNat)
      case atStart => exact ⟨0, by omega, rfl, rfl, rfl, HB⟩
      case round =>
        obtain ⟨k, hk, rfl, rfl, rfl, HBK⟩ := hrel
        obtain ⟨LA, hLA⟩ : ∃ LA, lastN ks i k = LA := ⟨_, rfl⟩
        obtain ⟨FI, hFI⟩ : ∃ FI, firstN ks i k = FI := ⟨_, rfl⟩
        have hLi : i ≤ LA := by rw [← hLA]; exact lastN_le ks i k
        rw [hLA, hFI]
        have HLF : Hid _ := And.intro hLA hFI
        clear hLA hFI
        by_cases hkc : k < len
        · have dk : (k : Int) < (len : Int) := by omega
          have x0 := HCL.out wr HBK.out k hkc
          have x1 := HCL.out wr HBK.out i hc
          rw [HXI.out] at x1
          have wk : IntKind.i64.wrap ((k : Int) + 1) = (k : Int) + 1 := by have := HHS.out; rw [IntKind.wrap_i64]; omega
          by_cases he : ks.getD k 0 = xi
          · rw [he] at x0
            have HE : Hid (ks.getD k 0 = ks.getD i 0) := by unfold Hid; rw [he, HXI.out]
            clear he
            by_cases hlt : k < i
            · have dg : ¬ ((LA : Int) < (k : Int)) := by omega
              have dl : (k : Int) < (i : Int) := by omega
              have HN : Hid (lastN ks i (k + 1) = LA ∧ firstN ks i (k + 1) = false) := by
                unfold Hid
                simp only [lastN, firstN]
                refine ⟨?_, ?_⟩
                · rw [HLF.out.1, if_neg (by omega)]
                · rw [if_pos ⟨HE.out, hlt⟩]
              go_upto_region 14 with fail
              refine wp_region_held_drew (S := (fun x => x.cell? ⟨b, off + k, none⟩ = some (.int .i64 xi) ∧ x.cell? ⟨b, off + i, none⟩ = some (.int .i64 xi))) (by kernel_rfl) (⟨x0, x1⟩) (fun hHeld => ?_)
              refine wpAnyH_take (i := 0) (oi := { dst := some 39, op := Op.move (Operand.tmp 0), type := 22, pos := "law.go:161", after := #[], guard := none }) (v := ?v0pa) rfl (by kernel_rfl) (by kernel_rfl) (by kernel_rfl) (fun _ _ _ h => h) (Or.inl ⟨by rfl, ?y0pa⟩) (by assumption) ?r0pa
              case y0pa => (intro x hx; obtain ⟨hx0, hx1⟩ := hx; go_simp; try with_reducible rfl)
              try simp only [Act.put, List.setIfInBounds_toArray, List.set_cons_zero, List.set_cons_succ]
              refine wpAnyH_take (i := 1) (oi := { dst := some 40, op := Op.move (Operand.tmp 12), type := 3, pos := "law.go:161", after := #[], guard := none }) (v := ?v1pa) rfl (by kernel_rfl) (by kernel_rfl) (by kernel_rfl) (fun _ _ _ h => h) (Or.inl ⟨by rfl, ?y1pa⟩) (by assumption) ?r1pa
              case y1pa => (intro x hx; obtain ⟨hx0, hx1⟩ := hx; go_simp; try with_reducible rfl)
              try simp only [Act.put, List.setIfInBounds_toArray, List.set_cons_zero, List.set_cons_succ]
              refine wpAnyH_take (i := 2) (oi := { dst := some 41, op := Op.indexAddr 22 (Operand.tmp 39) (Operand.tmp 40), type := 0, pos := "law.go:161", after := #[{ on := 0, ground := Ground.data }, { on := 1, ground := Ground.data }], guard := none }) (v := ?v2pa) rfl (by kernel_rfl) (by kernel_rfl) (by kernel_rfl) (fun _ _ _ h => h) (Or.inl ⟨by rfl, ?y2pa⟩) (by assumption) ?r2pa
              case y2pa => (intro x hx; obtain ⟨hx0, hx1⟩ := hx; go_simp; try with_reducible rfl)
              try simp only [Act.put, List.setIfInBounds_toArray, List.set_cons_zero, List.set_cons_succ]
              refine wpAnyH_take (i := 3) (oi := { dst := some 42, op := Op.load 3 (Operand.tmp 41), type := 3, pos := "law.go:161", after := #[{ on := 2, ground := Ground.data }], guard := none }) (v := ?v3pa) rfl (by kernel_rfl) (by kernel_rfl) (by kernel_rfl) (fun _ _ _ h => h) (Or.inl ⟨by rfl, ?y3pa⟩) (by assumption) ?r3pa
              case y3pa => (intro x hx; obtain ⟨hx0, hx1⟩ := hx; go_simp; try with_reducible rfl)
              try simp only [Act.put, List.setIfInBounds_toArray, List.set_cons_zero, List.set_cons_succ]
              refine wpAnyH_take (i := 4) (oi := { dst := some 43, op := Op.move (Operand.tmp 0), type := 22, pos := "law.go:161", after := #[], guard := none }) (v := ?v4pa) rfl (by kernel_rfl) (by kernel_rfl) (by kernel_rfl) (fun _ _ _ h => h) (Or.inl ⟨by rfl, ?y4pa⟩) (by assumption) ?r4pa
              case y4pa => (intro x hx; obtain ⟨hx0, hx1⟩ := hx; go_simp; try with_reducible rfl)
              try simp only [Act.put, List.setIfInBounds_toArray, List.set_cons_zero, List.set_cons_succ]
              refine wpAnyH_take (i := 5) (oi := { dst := some 44, op := Op.move (Operand.tmp 9), type := 3, pos := "law.go:161", after := #[], guard := none }) (v := ?v5pa) rfl (by kernel_rfl) (by kernel_rfl) (by kernel_rfl) (fun _ _ _ h => h) (Or.inl ⟨by rfl, ?y5pa⟩) (by assumption) ?r5pa
              case y5pa => (intro x hx; obtain ⟨hx0, hx1⟩ := hx; go_simp; try with_reducible rfl)
              try simp only [Act.put, List.setIfInBounds_toArray, List.set_cons_zero, List.set_cons_succ]
              refine wpAnyH_take (i := 6) (oi := { dst := some 45, op := Op.indexAddr 22 (Operand.tmp 43) (Operand.tmp 44), type := 0, pos := "law.go:161", after := #[{ on := 4, ground := Ground.data }, { on := 5, ground := Ground.data }], guard := none }) (v := ?v6pa) rfl (by kernel_rfl) (by kernel_rfl) (by kernel_rfl) (fun _ _ _ h => h) (Or.inl ⟨by rfl, ?y6pa⟩) (by assumption) ?r6pa
              case y6pa => (intro x hx; obtain ⟨hx0, hx1⟩ := hx; go_simp; try with_reducible rfl)
              try simp only [Act.put, List.setIfInBounds_toArray, List.set_cons_zero, List.set_cons_succ]
              refine wpAnyH_take (i := 7) (oi := { dst := some 46, op := Op.load 3 (Operand.tmp 45), type := 3, pos := "law.go:161", after := #[{ on := 6, ground := Ground.data }], guard := none }) (v := ?v7pa) rfl (by kernel_rfl) (by kernel_rfl) (by kernel_rfl) (fun _ _ _ h => h) (Or.inl ⟨by rfl, ?y7pa⟩) (by assumption) ?r7pa
              case y7pa => (intro x hx; obtain ⟨hx0, hx1⟩ := hx; go_simp; try with_reducible rfl)
              try simp only [Act.put, List.setIfInBounds_toArray, List.set_cons_zero, List.set_cons_succ]
              refine wpAnyH_take (i := 8) (oi := { dst := some 47, op := Op.binOp BinOp.eql 3 (Operand.tmp 42) (Operand.tmp 46) 3, type := 4, pos := "law.go:161", after := #[{ on := 3, ground := Ground.data }, { on := 7, ground := Ground.data }], guard := none }) (v := ?v8pa) rfl (by kernel_rfl) (by kernel_rfl) (by kernel_rfl) (fun _ _ _ h => h) (Or.inl ⟨by rfl, ?y8pa⟩) (by assumption) ?r8pa
              case y8pa => (intro x hx; obtain ⟨hx0, hx1⟩ := hx; go_simp; try with_reducible rfl)
              try simp only [Act.put, List.setIfInBounds_toArray, List.set_cons_zero, List.set_cons_succ]
              refine wpAnyH_take (i := 9) (oi := { dst := some 48, op := Op.move (Operand.tmp 47), type := 4, pos := "law.go:161", after := #[{ on := 8, ground := Ground.data }], guard := none }) (v := ?v9pa) rfl (by kernel_rfl) (by kernel_rfl) (by kernel_rfl) (fun _ _ _ h => h) (Or.inl ⟨by rfl, ?y9pa⟩) (by assumption) ?r9pa
              case y9pa => (intro x hx; obtain ⟨hx0, hx1⟩ := hx; go_simp; try with_reducible rfl)
              try simp only [Act.put, List.setIfInBounds_toArray, List.set_cons_zero, List.set_cons_succ]
              refine wpAnyH_take (i := 10) (oi := { dst := some 49, op := Op.move (Operand.tmp 12), type := 3, pos := "law.go:161", after := #[{ on := 9, ground := Ground.guard }], guard := some (9, true) }) (v := ?v10pa) rfl (by kernel_rfl) (by kernel_rfl) (by kernel_rfl) (fun _ _ _ h => h) (Or.inl ⟨by rfl, ?y10pa⟩) (by assumption) ?r10pa
              case y10pa => (intro x hx; obtain ⟨hx0, hx1⟩ := hx; go_simp; try with_reducible rfl)
              try simp only [Act.put, List.setIfInBounds_toArray, List.set_cons_zero, List.set_cons_succ]
              refine wpAnyH_take (i := 11) (oi := { dst := some 50, op := Op.move (Operand.tmp 10), type := 3, pos := "law.go:161", after := #[{ on := 9, ground := Ground.guard }], guard := some (9, true) }) (v := ?v11pa) rfl (by kernel_rfl) (by kernel_rfl) (by kernel_rfl) (fun _ _ _ h => h) (Or.inl ⟨by rfl, ?y11pa⟩) (by assumption) ?r11pa
              case y11pa => (intro x hx; obtain ⟨hx0, hx1⟩ := hx; go_simp; try with_reducible rfl)
              try simp only [Act.put, List.setIfInBounds_toArray, List.set_cons_zero, List.set_cons_succ]
              refine wpAnyH_take (i := 12) (oi := { dst := some 51, op := Op.binOp BinOp.gtr 3 (Operand.tmp 49) (Operand.tmp 50) 3, type := 4, pos := "law.go:161", after := #[{ on := 10, ground := Ground.data }, { on := 11, ground := Ground.data }, { on := 9, ground := Ground.guard }], guard := some (9, true) }) (v := ?v12pa) rfl (by kernel_rfl) (by kernel_rfl) (by kernel_rfl) (fun _ _ _ h => h) (Or.inl ⟨by rfl, ?y12pa⟩) (by assumption) ?r12pa
              case y12pa => (intro x hx; obtain ⟨hx0, hx1⟩ := hx; go_simp; try with_reducible rfl)
              try simp only [Act.put, List.setIfInBounds_toArray, List.set_cons_zero, List.set_cons_succ]
              refine wpAnyH_take (i := 13) (oi := { dst := some 52, op := Op.pick (Operand.tmp 48) (Operand.tmp 51) (Operand.const (Value.bool false)), type := 4, pos := "law.go:161", after := #[{ on := 9, ground := Ground.data }, { on := 12, ground := Ground.data }], guard := none }) (v := ?v13pa) rfl (by kernel_rfl) (by kernel_rfl) (by kernel_rfl) (fun _ _ _ h => h) (Or.inl ⟨by rfl, ?y13pa⟩) (by assumption) ?r13pa
              case y13pa => (intro x hx; obtain ⟨hx0, hx1⟩ := hx; go_simp; try with_reducible rfl)
              try simp only [Act.put, List.setIfInBounds_toArray, List.set_cons_zero, List.set_cons_succ]
              refine wpAnyH_done (by kernel_rfl) ?_ _
              go_upto_region 16 with fail
              refine wp_region_held_drew (S := (fun x => x.cell? ⟨b, off + k, none⟩ = some (.int .i64 xi) ∧ x.cell? ⟨b, off + i, none⟩ = some (.int .i64 xi))) (by kernel_rfl) (⟨x0, x1⟩) (fun hHeld => ?_)
              refine wpAnyH_take (i := 0) (oi := { dst := some 54, op := Op.move (Operand.tmp 0), type := 22, pos := "law.go:164", after := #[], guard := none }) (v := ?v0qa) rfl (by kernel_rfl) (by kernel_rfl) (by kernel_rfl) (fun _ _ _ h => h) (Or.inl ⟨by rfl, ?y0qa⟩) (by assumption) ?r0qa
              case y0qa => (intro x hx; obtain ⟨hx0, hx1⟩ := hx; go_simp; try with_reducible rfl)
              try simp only [Act.put, List.setIfInBounds_toArray, List.set_cons_zero, List.set_cons_succ]
              refine wpAnyH_take (i := 1) (oi := { dst := some 55, op := Op.move (Operand.tmp 12), type := 3, pos := "law.go:164", after := #[], guard := none }) (v := ?v1qa) rfl (by kernel_rfl) (by kernel_rfl) (by kernel_rfl) (fun _ _ _ h => h) (Or.inl ⟨by rfl, ?y1qa⟩) (by assumption) ?r1qa
              case y1qa => (intro x hx; obtain ⟨hx0, hx1⟩ := hx; go_simp; try with_reducible rfl)
              try simp only [Act.put, List.setIfInBounds_toArray, List.set_cons_zero, List.set_cons_succ]
              refine wpAnyH_take (i := 2) (oi := { dst := some 56, op := Op.indexAddr 22 (Operand.tmp 54) (Operand.tmp 55), type := 0, pos := "law.go:164", after := #[{ on := 0, ground := Ground.data }, { on := 1, ground := Ground.data }], guard := none }) (v := ?v2qa) rfl (by kernel_rfl) (by kernel_rfl) (by kernel_rfl) (fun _ _ _ h => h) (Or.inl ⟨by rfl, ?y2qa⟩) (by assumption) ?r2qa
              case y2qa => (intro x hx; obtain ⟨hx0, hx1⟩ := hx; go_simp; try with_reducible rfl)
              try simp only [Act.put, List.setIfInBounds_toArray, List.set_cons_zero, List.set_cons_succ]
              refine wpAnyH_take (i := 3) (oi := { dst := some 57, op := Op.load 3 (Operand.tmp 56), type := 3, pos := "law.go:164", after := #[{ on := 2, ground := Ground.data }], guard := none }) (v := ?v3qa) rfl (by kernel_rfl) (by kernel_rfl) (by kernel_rfl) (fun _ _ _ h => h) (Or.inl ⟨by rfl, ?y3qa⟩) (by assumption) ?r3qa
              case y3qa => (intro x hx; obtain ⟨hx0, hx1⟩ := hx; go_simp; try with_reducible rfl)
              try simp only [Act.put, List.setIfInBounds_toArray, List.set_cons_zero, List.set_cons_succ]
              refine wpAnyH_take (i := 4) (oi := { dst := some 58, op := Op.move (Operand.tmp 0), type := 22, pos := "law.go:164", after := #[], guard := none }) (v := ?v4qa) rfl (by kernel_rfl) (by kernel_rfl) (by kernel_rfl) (fun _ _ _ h => h) (Or.inl ⟨by rfl, ?y4qa⟩) (by assumption) ?r4qa
              case y4qa => (intro x hx; obtain ⟨hx0, hx1⟩ := hx; go_simp; try with_reducible rfl)
              try simp only [Act.put, List.setIfInBounds_toArray, List.set_cons_zero, List.set_cons_succ]
              refine wpAnyH_take (i := 5) (oi := { dst := some 59, op := Op.move (Operand.tmp 9), type := 3, pos := "law.go:164", after := #[], guard := none }) (v := ?v5qa) rfl (by kernel_rfl) (by kernel_rfl) (by kernel_rfl) (fun _ _ _ h => h) (Or.inl ⟨by rfl, ?y5qa⟩) (by assumption) ?r5qa
              case y5qa => (intro x hx; obtain ⟨hx0, hx1⟩ := hx; go_simp; try with_reducible rfl)
              try simp only [Act.put, List.setIfInBounds_toArray, List.set_cons_zero, List.set_cons_succ]
              refine wpAnyH_take (i := 6) (oi := { dst := some 60, op := Op.indexAddr 22 (Operand.tmp 58) (Operand.tmp 59), type := 0, pos := "law.go:164", after := #[{ on := 4, ground := Ground.data }, { on := 5, ground := Ground.data }], guard := none }) (v := ?v6qa) rfl (by kernel_rfl) (by kernel_rfl) (by kernel_rfl) (fun _ _ _ h => h) (Or.inl ⟨by rfl, ?y6qa⟩) (by assumption) ?r6qa
              case y6qa => (intro x hx; obtain ⟨hx0, hx1⟩ := hx; go_simp; try with_reducible rfl)
              try simp only [Act.put, List.setIfInBounds_toArray, List.set_cons_zero, List.set_cons_succ]
              refine wpAnyH_take (i := 7) (oi := { dst := some 61, op := Op.load 3 (Operand.tmp 60), type := 3, pos := "law.go:164", after := #[{ on := 6, ground := Ground.data }], guard := none }) (v := ?v7qa) rfl (by kernel_rfl) (by kernel_rfl) (by kernel_rfl) (fun _ _ _ h => h) (Or.inl ⟨by rfl, ?y7qa⟩) (by assumption) ?r7qa
              case y7qa => (intro x hx; obtain ⟨hx0, hx1⟩ := hx; go_simp; try with_reducible rfl)
              try simp only [Act.put, List.setIfInBounds_toArray, List.set_cons_zero, List.set_cons_succ]
              refine wpAnyH_take (i := 8) (oi := { dst := some 62, op := Op.binOp BinOp.eql 3 (Operand.tmp 57) (Operand.tmp 61) 3, type := 4, pos := "law.go:164", after := #[{ on := 3, ground := Ground.data }, { on := 7, ground := Ground.data }], guard := none }) (v := ?v8qa) rfl (by kernel_rfl) (by kernel_rfl) (by kernel_rfl) (fun _ _ _ h => h) (Or.inl ⟨by rfl, ?y8qa⟩) (by assumption) ?r8qa
              case y8qa => (intro x hx; obtain ⟨hx0, hx1⟩ := hx; go_simp; try with_reducible rfl)
              try simp only [Act.put, List.setIfInBounds_toArray, List.set_cons_zero, List.set_cons_succ]
              refine wpAnyH_take (i := 9) (oi := { dst := some 63, op := Op.move (Operand.tmp 62), type := 4, pos := "law.go:164", after := #[{ on := 8, ground := Ground.data }], guard := none }) (v := ?v9qa) rfl (by kernel_rfl) (by kernel_rfl) (by kernel_rfl) (fun _ _ _ h => h) (Or.inl ⟨by rfl, ?y9qa⟩) (by assumption) ?r9qa
              case y9qa => (intro x hx; obtain ⟨hx0, hx1⟩ := hx; go_simp; try with_reducible rfl)
              try simp only [Act.put, List.setIfInBounds_toArray, List.set_cons_zero, List.set_cons_succ]
              refine wpAnyH_take (i := 10) (oi := { dst := some 64, op := Op.move (Operand.tmp 12), type := 3, pos := "law.go:164", after := #[{ on := 9, ground := Ground.guard }], guard := some (9, true) }) (v := ?v10qa) rfl (by kernel_rfl) (by kernel_rfl) (by kernel_rfl) (fun _ _ _ h => h) (Or.inl ⟨by rfl, ?y10qa⟩) (by assumption) ?r10qa
              case y10qa => (intro x hx; obtain ⟨hx0, hx1⟩ := hx; go_simp; try with_reducible rfl)
              try simp only [Act.put, List.setIfInBounds_toArray, List.set_cons_zero, List.set_cons_succ]
              refine wpAnyH_take (i := 11) (oi := { dst := some 65, op := Op.move (Operand.tmp 9), type := 3, pos := "law.go:164", after := #[{ on := 9, ground := Ground.guard }], guard := some (9, true) }) (v := ?v11qa) rfl (by kernel_rfl) (by kernel_rfl) (by kernel_rfl) (fun _ _ _ h => h) (Or.inl ⟨by rfl, ?y11qa⟩) (by assumption) ?r11qa
              case y11qa => (intro x hx; obtain ⟨hx0, hx1⟩ := hx; go_simp; try with_reducible rfl)
              try simp only [Act.put, List.setIfInBounds_toArray, List.set_cons_zero, List.set_cons_succ]
              refine wpAnyH_take (i := 12) (oi := { dst := some 66, op := Op.binOp BinOp.lss 3 (Operand.tmp 64) (Operand.tmp 65) 3, type := 4, pos := "law.go:164", after := #[{ on := 10, ground := Ground.data }, { on := 11, ground := Ground.data }, { on := 9, ground := Ground.guard }], guard := some (9, true) }) (v := ?v12qa) rfl (by kernel_rfl) (by kernel_rfl) (by kernel_rfl) (fun _ _ _ h => h) (Or.inl ⟨by rfl, ?y12qa⟩) (by assumption) ?r12qa
              case y12qa => (intro x hx; obtain ⟨hx0, hx1⟩ := hx; go_simp; try with_reducible rfl)
              try simp only [Act.put, List.setIfInBounds_toArray, List.set_cons_zero, List.set_cons_succ]
              refine wpAnyH_take (i := 13) (oi := { dst := some 67, op := Op.pick (Operand.tmp 63) (Operand.tmp 66) (Operand.const (Value.bool false)), type := 4, pos := "law.go:164", after := #[{ on := 9, ground := Ground.data }, { on := 12, ground := Ground.data }], guard := none }) (v := ?v13qa) rfl (by kernel_rfl) (by kernel_rfl) (by kernel_rfl) (fun _ _ _ h => h) (Or.inl ⟨by rfl, ?y13qa⟩) (by assumption) ?r13qa
              case y13qa => (intro x hx; obtain ⟨hx0, hx1⟩ := hx; go_simp; try with_reducible rfl)
              try simp only [Act.put, List.setIfInBounds_toArray, List.set_cons_zero, List.set_cons_succ]
              refine wpAnyH_done (by kernel_rfl) ?_ _
              go_wp2_with fail
              go_roundw
              case rel => exact ⟨k + 1, by omega, by first | rfl | simp, by rw [HN.out.1], by rw [HN.out.2], HBK.out.drew.drew⟩
              case measure => (simp [intOf]; omega)
            · have dl : ¬ ((k : Int) < (i : Int)) := by omega
              by_cases hg : LA < k
              · have dg : (LA : Int) < (k : Int) := by omega
                have HN : Hid (lastN ks i (k + 1) = k ∧ firstN ks i (k + 1) = FI) := by
                  unfold Hid
                  simp only [lastN, firstN]
                  refine ⟨?_, ?_⟩
                  · rw [HLF.out.1, if_pos ⟨HE.out, hg⟩]
                  · rw [if_neg (fun q => hlt q.2)]; exact HLF.out.2
                go_upto_region 14 with fail
                refine wp_region_held_drew (S := (fun x => x.cell? ⟨b, off + k, none⟩ = some (.int .i64 xi) ∧ x.cell? ⟨b, off + i, none⟩ = some (.int .i64 xi))) (by kernel_rfl) (⟨x0, x1⟩) (fun hHeld => ?_)
                refine wpAnyH_take (i := 0) (oi := { dst := some 39, op := Op.move (Operand.tmp 0), type := 22, pos := "law.go:161", after := #[], guard := none }) (v := ?v0pb) rfl (by kernel_rfl) (by kernel_rfl) (by kernel_rfl) (fun _ _ _ h => h) (Or.inl ⟨by rfl, ?y0pb⟩) (by assumption) ?r0pb
                case y0pb => (intro x hx; obtain ⟨hx0, hx1⟩ := hx; go_simp; try with_reducible rfl)
                try simp only [Act.put, List.setIfInBounds_toArray, List.set_cons_zero, List.set_cons_succ]
                refine wpAnyH_take (i := 1) (oi := { dst := some 40, op := Op.move (Operand.tmp 12), type := 3, pos := "law.go:161", after := #[], guard := none }) (v := ?v1pb) rfl (by kernel_rfl) (by kernel_rfl) (by kernel_rfl) (fun _ _ _ h => h) (Or.inl ⟨by rfl, ?y1pb⟩) (by assumption) ?r1pb
                case y1pb => (intro x hx; obtain ⟨hx0, hx1⟩ := hx; go_simp; try with_reducible rfl)
                try simp only [Act.put, List.setIfInBounds_toArray, List.set_cons_zero, List.set_cons_succ]
                refine wpAnyH_take (i := 2) (oi := { dst := some 41, op := Op.indexAddr 22 (Operand.tmp 39) (Operand.tmp 40), type := 0, pos := "law.go:161", after := #[{ on := 0, ground := Ground.data }, { on := 1, ground := Ground.data }], guard := none }) (v := ?v2pb) rfl (by kernel_rfl) (by kernel_rfl) (by kernel_rfl) (fun _ _ _ h => h) (Or.inl ⟨by rfl, ?y2pb⟩) (by assumption) ?r2pb
                case y2pb => (intro x hx; obtain ⟨hx0, hx1⟩ := hx; go_simp; try with_reducible rfl)
                try simp only [Act.put, List.setIfInBounds_toArray, List.set_cons_zero, List.set_cons_succ]
                refine wpAnyH_take (i := 3) (oi := { dst := some 42, op := Op.load 3 (Operand.tmp 41), type := 3, pos := "law.go:161", after := #[{ on := 2, ground := Ground.data }], guard := none }) (v := ?v3pb) rfl (by kernel_rfl) (by kernel_rfl) (by kernel_rfl) (fun _ _ _ h => h) (Or.inl ⟨by rfl, ?y3pb⟩) (by assumption) ?r3pb
                case y3pb => (intro x hx; obtain ⟨hx0, hx1⟩ := hx; go_simp; try with_reducible rfl)
                try simp only [Act.put, List.setIfInBounds_toArray, List.set_cons_zero, List.set_cons_succ]
                refine wpAnyH_take (i := 4) (oi := { dst := some 43, op := Op.move (Operand.tmp 0), type := 22, pos := "law.go:161", after := #[], guard := none }) (v := ?v4pb) rfl (by kernel_rfl) (by kernel_rfl) (by kernel_rfl) (fun _ _ _ h => h) (Or.inl ⟨by rfl, ?y4pb⟩) (by assumption) ?r4pb
                case y4pb => (intro x hx; obtain ⟨hx0, hx1⟩ := hx; go_simp; try with_reducible rfl)
                try simp only [Act.put, List.setIfInBounds_toArray, List.set_cons_zero, List.set_cons_succ]
                refine wpAnyH_take (i := 5) (oi := { dst := some 44, op := Op.move (Operand.tmp 9), type := 3, pos := "law.go:161", after := #[], guard := none }) (v := ?v5pb) rfl (by kernel_rfl) (by kernel_rfl) (by kernel_rfl) (fun _ _ _ h => h) (Or.inl ⟨by rfl, ?y5pb⟩) (by assumption) ?r5pb
                case y5pb => (intro x hx; obtain ⟨hx0, hx1⟩ := hx; go_simp; try with_reducible rfl)
                try simp only [Act.put, List.setIfInBounds_toArray, List.set_cons_zero, List.set_cons_succ]
                refine wpAnyH_take (i := 6) (oi := { dst := some 45, op := Op.indexAddr 22 (Operand.tmp 43) (Operand.tmp 44), type := 0, pos := "law.go:161", after := #[{ on := 4, ground := Ground.data }, { on := 5, ground := Ground.data }], guard := none }) (v := ?v6pb) rfl (by kernel_rfl) (by kernel_rfl) (by kernel_rfl) (fun _ _ _ h => h) (Or.inl ⟨by rfl, ?y6pb⟩) (by assumption) ?r6pb
                case y6pb => (intro x hx; obtain ⟨hx0, hx1⟩ := hx; go_simp; try with_reducible rfl)
                try simp only [Act.put, List.setIfInBounds_toArray, List.set_cons_zero, List.set_cons_succ]
                refine wpAnyH_take (i := 7) (oi := { dst := some 46, op := Op.load 3 (Operand.tmp 45), type := 3, pos := "law.go:161", after := #[{ on := 6, ground := Ground.data }], guard := none }) (v := ?v7pb) rfl (by kernel_rfl) (by kernel_rfl) (by kernel_rfl) (fun _ _ _ h => h) (Or.inl ⟨by rfl, ?y7pb⟩) (by assumption) ?r7pb
                case y7pb => (intro x hx; obtain ⟨hx0, hx1⟩ := hx; go_simp; try with_reducible rfl)
                try simp only [Act.put, List.setIfInBounds_toArray, List.set_cons_zero, List.set_cons_succ]
                refine wpAnyH_take (i := 8) (oi := { dst := some 47, op := Op.binOp BinOp.eql 3 (Operand.tmp 42) (Operand.tmp 46) 3, type := 4, pos := "law.go:161", after := #[{ on := 3, ground := Ground.data }, { on := 7, ground := Ground.data }], guard := none }) (v := ?v8pb) rfl (by kernel_rfl) (by kernel_rfl) (by kernel_rfl) (fun _ _ _ h => h) (Or.inl ⟨by rfl, ?y8pb⟩) (by assumption) ?r8pb
                case y8pb => (intro x hx; obtain ⟨hx0, hx1⟩ := hx; go_simp; try with_reducible rfl)
                try simp only [Act.put, List.setIfInBounds_toArray, List.set_cons_zero, List.set_cons_succ]
                refine wpAnyH_take (i := 9) (oi := { dst := some 48, op := Op.move (Operand.tmp 47), type := 4, pos := "law.go:161", after := #[{ on := 8, ground := Ground.data }], guard := none }) (v := ?v9pb) rfl (by kernel_rfl) (by kernel_rfl) (by kernel_rfl) (fun _ _ _ h => h) (Or.inl ⟨by rfl, ?y9pb⟩) (by assumption) ?r9pb
                case y9pb => (intro x hx; obtain ⟨hx0, hx1⟩ := hx; go_simp; try with_reducible rfl)
                try simp only [Act.put, List.setIfInBounds_toArray, List.set_cons_zero, List.set_cons_succ]
                refine wpAnyH_take (i := 10) (oi := { dst := some 49, op := Op.move (Operand.tmp 12), type := 3, pos := "law.go:161", after := #[{ on := 9, ground := Ground.guard }], guard := some (9, true) }) (v := ?v10pb) rfl (by kernel_rfl) (by kernel_rfl) (by kernel_rfl) (fun _ _ _ h => h) (Or.inl ⟨by rfl, ?y10pb⟩) (by assumption) ?r10pb
                case y10pb => (intro x hx; obtain ⟨hx0, hx1⟩ := hx; go_simp; try with_reducible rfl)
                try simp only [Act.put, List.setIfInBounds_toArray, List.set_cons_zero, List.set_cons_succ]
                refine wpAnyH_take (i := 11) (oi := { dst := some 50, op := Op.move (Operand.tmp 10), type := 3, pos := "law.go:161", after := #[{ on := 9, ground := Ground.guard }], guard := some (9, true) }) (v := ?v11pb) rfl (by kernel_rfl) (by kernel_rfl) (by kernel_rfl) (fun _ _ _ h => h) (Or.inl ⟨by rfl, ?y11pb⟩) (by assumption) ?r11pb
                case y11pb => (intro x hx; obtain ⟨hx0, hx1⟩ := hx; go_simp; try with_reducible rfl)
                try simp only [Act.put, List.setIfInBounds_toArray, List.set_cons_zero, List.set_cons_succ]
                refine wpAnyH_take (i := 12) (oi := { dst := some 51, op := Op.binOp BinOp.gtr 3 (Operand.tmp 49) (Operand.tmp 50) 3, type := 4, pos := "law.go:161", after := #[{ on := 10, ground := Ground.data }, { on := 11, ground := Ground.data }, { on := 9, ground := Ground.guard }], guard := some (9, true) }) (v := ?v12pb) rfl (by kernel_rfl) (by kernel_rfl) (by kernel_rfl) (fun _ _ _ h => h) (Or.inl ⟨by rfl, ?y12pb⟩) (by assumption) ?r12pb
                case y12pb => (intro x hx; obtain ⟨hx0, hx1⟩ := hx; go_simp; try with_reducible rfl)
                try simp only [Act.put, List.setIfInBounds_toArray, List.set_cons_zero, List.set_cons_succ]
                refine wpAnyH_take (i := 13) (oi := { dst := some 52, op := Op.pick (Operand.tmp 48) (Operand.tmp 51) (Operand.const (Value.bool false)), type := 4, pos := "law.go:161", after := #[{ on := 9, ground := Ground.data }, { on := 12, ground := Ground.data }], guard := none }) (v := ?v13pb) rfl (by kernel_rfl) (by kernel_rfl) (by kernel_rfl) (fun _ _ _ h => h) (Or.inl ⟨by rfl, ?y13pb⟩) (by assumption) ?r13pb
                case y13pb => (intro x hx; obtain ⟨hx0, hx1⟩ := hx; go_simp; try with_reducible rfl)
                try simp only [Act.put, List.setIfInBounds_toArray, List.set_cons_zero, List.set_cons_succ]
                refine wpAnyH_done (by kernel_rfl) ?_ _
                go_upto_region 16 with fail
                refine wp_region_held_drew (S := (fun x => x.cell? ⟨b, off + k, none⟩ = some (.int .i64 xi) ∧ x.cell? ⟨b, off + i, none⟩ = some (.int .i64 xi))) (by kernel_rfl) (⟨x0, x1⟩) (fun hHeld => ?_)
                refine wpAnyH_take (i := 0) (oi := { dst := some 54, op := Op.move (Operand.tmp 0), type := 22, pos := "law.go:164", after := #[], guard := none }) (v := ?v0qb) rfl (by kernel_rfl) (by kernel_rfl) (by kernel_rfl) (fun _ _ _ h => h) (Or.inl ⟨by rfl, ?y0qb⟩) (by assumption) ?r0qb
                case y0qb => (intro x hx; obtain ⟨hx0, hx1⟩ := hx; go_simp; try with_reducible rfl)
                try simp only [Act.put, List.setIfInBounds_toArray, List.set_cons_zero, List.set_cons_succ]
                refine wpAnyH_take (i := 1) (oi := { dst := some 55, op := Op.move (Operand.tmp 12), type := 3, pos := "law.go:164", after := #[], guard := none }) (v := ?v1qb) rfl (by kernel_rfl) (by kernel_rfl) (by kernel_rfl) (fun _ _ _ h => h) (Or.inl ⟨by rfl, ?y1qb⟩) (by assumption) ?r1qb
                case y1qb => (intro x hx; obtain ⟨hx0, hx1⟩ := hx; go_simp; try with_reducible rfl)
                try simp only [Act.put, List.setIfInBounds_toArray, List.set_cons_zero, List.set_cons_succ]
                refine wpAnyH_take (i := 2) (oi := { dst := some 56, op := Op.indexAddr 22 (Operand.tmp 54) (Operand.tmp 55), type := 0, pos := "law.go:164", after := #[{ on := 0, ground := Ground.data }, { on := 1, ground := Ground.data }], guard := none }) (v := ?v2qb) rfl (by kernel_rfl) (by kernel_rfl) (by kernel_rfl) (fun _ _ _ h => h) (Or.inl ⟨by rfl, ?y2qb⟩) (by assumption) ?r2qb
                case y2qb => (intro x hx; obtain ⟨hx0, hx1⟩ := hx; go_simp; try with_reducible rfl)
                try simp only [Act.put, List.setIfInBounds_toArray, List.set_cons_zero, List.set_cons_succ]
                refine wpAnyH_take (i := 3) (oi := { dst := some 57, op := Op.load 3 (Operand.tmp 56), type := 3, pos := "law.go:164", after := #[{ on := 2, ground := Ground.data }], guard := none }) (v := ?v3qb) rfl (by kernel_rfl) (by kernel_rfl) (by kernel_rfl) (fun _ _ _ h => h) (Or.inl ⟨by rfl, ?y3qb⟩) (by assumption) ?r3qb
                case y3qb => (intro x hx; obtain ⟨hx0, hx1⟩ := hx; go_simp; try with_reducible rfl)
                try simp only [Act.put, List.setIfInBounds_toArray, List.set_cons_zero, List.set_cons_succ]
                refine wpAnyH_take (i := 4) (oi := { dst := some 58, op := Op.move (Operand.tmp 0), type := 22, pos := "law.go:164", after := #[], guard := none }) (v := ?v4qb) rfl (by kernel_rfl) (by kernel_rfl) (by kernel_rfl) (fun _ _ _ h => h) (Or.inl ⟨by rfl, ?y4qb⟩) (by assumption) ?r4qb
                case y4qb => (intro x hx; obtain ⟨hx0, hx1⟩ := hx; go_simp; try with_reducible rfl)
                try simp only [Act.put, List.setIfInBounds_toArray, List.set_cons_zero, List.set_cons_succ]
                refine wpAnyH_take (i := 5) (oi := { dst := some 59, op := Op.move (Operand.tmp 9), type := 3, pos := "law.go:164", after := #[], guard := none }) (v := ?v5qb) rfl (by kernel_rfl) (by kernel_rfl) (by kernel_rfl) (fun _ _ _ h => h) (Or.inl ⟨by rfl, ?y5qb⟩) (by assumption) ?r5qb
                case y5qb => (intro x hx; obtain ⟨hx0, hx1⟩ := hx; go_simp; try with_reducible rfl)
                try simp only [Act.put, List.setIfInBounds_toArray, List.set_cons_zero, List.set_cons_succ]
                refine wpAnyH_take (i := 6) (oi := { dst := some 60, op := Op.indexAddr 22 (Operand.tmp 58) (Operand.tmp 59), type := 0, pos := "law.go:164", after := #[{ on := 4, ground := Ground.data }, { on := 5, ground := Ground.data }], guard := none }) (v := ?v6qb) rfl (by kernel_rfl) (by kernel_rfl) (by kernel_rfl) (fun _ _ _ h => h) (Or.inl ⟨by rfl, ?y6qb⟩) (by assumption) ?r6qb
                case y6qb => (intro x hx; obtain ⟨hx0, hx1⟩ := hx; go_simp; try with_reducible rfl)
                try simp only [Act.put, List.setIfInBounds_toArray, List.set_cons_zero, List.set_cons_succ]
                refine wpAnyH_take (i := 7) (oi := { dst := some 61, op := Op.load 3 (Operand.tmp 60), type := 3, pos := "law.go:164", after := #[{ on := 6, ground := Ground.data }], guard := none }) (v := ?v7qb) rfl (by kernel_rfl) (by kernel_rfl) (by kernel_rfl) (fun _ _ _ h => h) (Or.inl ⟨by rfl, ?y7qb⟩) (by assumption) ?r7qb
                case y7qb => (intro x hx; obtain ⟨hx0, hx1⟩ := hx; go_simp; try with_reducible rfl)
                try simp only [Act.put, List.setIfInBounds_toArray, List.set_cons_zero, List.set_cons_succ]
                refine wpAnyH_take (i := 8) (oi := { dst := some 62, op := Op.binOp BinOp.eql 3 (Operand.tmp 57) (Operand.tmp 61) 3, type := 4, pos := "law.go:164", after := #[{ on := 3, ground := Ground.data }, { on := 7, ground := Ground.data }], guard := none }) (v := ?v8qb) rfl (by kernel_rfl) (by kernel_rfl) (by kernel_rfl) (fun _ _ _ h => h) (Or.inl ⟨by rfl, ?y8qb⟩) (by assumption) ?r8qb
                case y8qb => (intro x hx; obtain ⟨hx0, hx1⟩ := hx; go_simp; try with_reducible rfl)
                try simp only [Act.put, List.setIfInBounds_toArray, List.set_cons_zero, List.set_cons_succ]
                refine wpAnyH_take (i := 9) (oi := { dst := some 63, op := Op.move (Operand.tmp 62), type := 4, pos := "law.go:164", after := #[{ on := 8, ground := Ground.data }], guard := none }) (v := ?v9qb) rfl (by kernel_rfl) (by kernel_rfl) (by kernel_rfl) (fun _ _ _ h => h) (Or.inl ⟨by rfl, ?y9qb⟩) (by assumption) ?r9qb
                case y9qb => (intro x hx; obtain ⟨hx0, hx1⟩ := hx; go_simp; try with_reducible rfl)
                try simp only [Act.put, List.setIfInBounds_toArray, List.set_cons_zero, List.set_cons_succ]
                refine wpAnyH_take (i := 10) (oi := { dst := some 64, op := Op.move (Operand.tmp 12), type := 3, pos := "law.go:164", after := #[{ on := 9, ground := Ground.guard }], guard := some (9, true) }) (v := ?v10qb) rfl (by kernel_rfl) (by kernel_rfl) (by kernel_rfl) (fun _ _ _ h => h) (Or.inl ⟨by rfl, ?y10qb⟩) (by assumption) ?r10qb
                case y10qb => (intro x hx; obtain ⟨hx0, hx1⟩ := hx; go_simp; try with_reducible rfl)
                try simp only [Act.put, List.setIfInBounds_toArray, List.set_cons_zero, List.set_cons_succ]
                refine wpAnyH_take (i := 11) (oi := { dst := some 65, op := Op.move (Operand.tmp 9), type := 3, pos := "law.go:164", after := #[{ on := 9, ground := Ground.guard }], guard := some (9, true) }) (v := ?v11qb) rfl (by kernel_rfl) (by kernel_rfl) (by kernel_rfl) (fun _ _ _ h => h) (Or.inl ⟨by rfl, ?y11qb⟩) (by assumption) ?r11qb
                case y11qb => (intro x hx; obtain ⟨hx0, hx1⟩ := hx; go_simp; try with_reducible rfl)
                try simp only [Act.put, List.setIfInBounds_toArray, List.set_cons_zero, List.set_cons_succ]
                refine wpAnyH_take (i := 12) (oi := { dst := some 66, op := Op.binOp BinOp.lss 3 (Operand.tmp 64) (Operand.tmp 65) 3, type := 4, pos := "law.go:164", after := #[{ on := 10, ground := Ground.data }, { on := 11, ground := Ground.data }, { on := 9, ground := Ground.guard }], guard := some (9, true) }) (v := ?v12qb) rfl (by kernel_rfl) (by kernel_rfl) (by kernel_rfl) (fun _ _ _ h => h) (Or.inl ⟨by rfl, ?y12qb⟩) (by assumption) ?r12qb
                case y12qb => (intro x hx; obtain ⟨hx0, hx1⟩ := hx; go_simp; try with_reducible rfl)
                try simp only [Act.put, List.setIfInBounds_toArray, List.set_cons_zero, List.set_cons_succ]
                refine wpAnyH_take (i := 13) (oi := { dst := some 67, op := Op.pick (Operand.tmp 63) (Operand.tmp 66) (Operand.const (Value.bool false)), type := 4, pos := "law.go:164", after := #[{ on := 9, ground := Ground.data }, { on := 12, ground := Ground.data }], guard := none }) (v := ?v13qb) rfl (by kernel_rfl) (by kernel_rfl) (by kernel_rfl) (fun _ _ _ h => h) (Or.inl ⟨by rfl, ?y13qb⟩) (by assumption) ?r13qb
                case y13qb => (intro x hx; obtain ⟨hx0, hx1⟩ := hx; go_simp; try with_reducible rfl)
                try simp only [Act.put, List.setIfInBounds_toArray, List.set_cons_zero, List.set_cons_succ]
                refine wpAnyH_done (by kernel_rfl) ?_ _
                go_wp2_with fail
                go_roundw
                case rel => exact ⟨k + 1, by omega, by first | rfl | simp, by rw [HN.out.1], by rw [HN.out.2], HBK.out.drew.drew⟩
                case measure => (simp [intOf]; omega)
              · have dg : ¬ ((LA : Int) < (k : Int)) := by omega
                have HN : Hid (lastN ks i (k + 1) = LA ∧ firstN ks i (k + 1) = FI) := by
                  unfold Hid
                  simp only [lastN, firstN]
                  refine ⟨?_, ?_⟩
                  · rw [HLF.out.1, if_neg (fun q => hg q.2)]
                  · rw [if_neg (fun q => hlt q.2)]; exact HLF.out.2
                go_upto_region 14 with fail
                refine wp_region_held_drew (S := (fun x => x.cell? ⟨b, off + k, none⟩ = some (.int .i64 xi) ∧ x.cell? ⟨b, off + i, none⟩ = some (.int .i64 xi))) (by kernel_rfl) (⟨x0, x1⟩) (fun hHeld => ?_)
                refine wpAnyH_take (i := 0) (oi := { dst := some 39, op := Op.move (Operand.tmp 0), type := 22, pos := "law.go:161", after := #[], guard := none }) (v := ?v0pc) rfl (by kernel_rfl) (by kernel_rfl) (by kernel_rfl) (fun _ _ _ h => h) (Or.inl ⟨by rfl, ?y0pc⟩) (by assumption) ?r0pc
                case y0pc => (intro x hx; obtain ⟨hx0, hx1⟩ := hx; go_simp; try with_reducible rfl)
                try simp only [Act.put, List.setIfInBounds_toArray, List.set_cons_zero, List.set_cons_succ]
                refine wpAnyH_take (i := 1) (oi := { dst := some 40, op := Op.move (Operand.tmp 12), type := 3, pos := "law.go:161", after := #[], guard := none }) (v := ?v1pc) rfl (by kernel_rfl) (by kernel_rfl) (by kernel_rfl) (fun _ _ _ h => h) (Or.inl ⟨by rfl, ?y1pc⟩) (by assumption) ?r1pc
                case y1pc => (intro x hx; obtain ⟨hx0, hx1⟩ := hx; go_simp; try with_reducible rfl)
                try simp only [Act.put, List.setIfInBounds_toArray, List.set_cons_zero, List.set_cons_succ]
                refine wpAnyH_take (i := 2) (oi := { dst := some 41, op := Op.indexAddr 22 (Operand.tmp 39) (Operand.tmp 40), type := 0, pos := "law.go:161", after := #[{ on := 0, ground := Ground.data }, { on := 1, ground := Ground.data }], guard := none }) (v := ?v2pc) rfl (by kernel_rfl) (by kernel_rfl) (by kernel_rfl) (fun _ _ _ h => h) (Or.inl ⟨by rfl, ?y2pc⟩) (by assumption) ?r2pc
                case y2pc => (intro x hx; obtain ⟨hx0, hx1⟩ := hx; go_simp; try with_reducible rfl)
                try simp only [Act.put, List.setIfInBounds_toArray, List.set_cons_zero, List.set_cons_succ]
                refine wpAnyH_take (i := 3) (oi := { dst := some 42, op := Op.load 3 (Operand.tmp 41), type := 3, pos := "law.go:161", after := #[{ on := 2, ground := Ground.data }], guard := none }) (v := ?v3pc) rfl (by kernel_rfl) (by kernel_rfl) (by kernel_rfl) (fun _ _ _ h => h) (Or.inl ⟨by rfl, ?y3pc⟩) (by assumption) ?r3pc
                case y3pc => (intro x hx; obtain ⟨hx0, hx1⟩ := hx; go_simp; try with_reducible rfl)
                try simp only [Act.put, List.setIfInBounds_toArray, List.set_cons_zero, List.set_cons_succ]
                refine wpAnyH_take (i := 4) (oi := { dst := some 43, op := Op.move (Operand.tmp 0), type := 22, pos := "law.go:161", after := #[], guard := none }) (v := ?v4pc) rfl (by kernel_rfl) (by kernel_rfl) (by kernel_rfl) (fun _ _ _ h => h) (Or.inl ⟨by rfl, ?y4pc⟩) (by assumption) ?r4pc
                case y4pc => (intro x hx; obtain ⟨hx0, hx1⟩ := hx; go_simp; try with_reducible rfl)
                try simp only [Act.put, List.setIfInBounds_toArray, List.set_cons_zero, List.set_cons_succ]
                refine wpAnyH_take (i := 5) (oi := { dst := some 44, op := Op.move (Operand.tmp 9), type := 3, pos := "law.go:161", after := #[], guard := none }) (v := ?v5pc) rfl (by kernel_rfl) (by kernel_rfl) (by kernel_rfl) (fun _ _ _ h => h) (Or.inl ⟨by rfl, ?y5pc⟩) (by assumption) ?r5pc
                case y5pc => (intro x hx; obtain ⟨hx0, hx1⟩ := hx; go_simp; try with_reducible rfl)
                try simp only [Act.put, List.setIfInBounds_toArray, List.set_cons_zero, List.set_cons_succ]
                refine wpAnyH_take (i := 6) (oi := { dst := some 45, op := Op.indexAddr 22 (Operand.tmp 43) (Operand.tmp 44), type := 0, pos := "law.go:161", after := #[{ on := 4, ground := Ground.data }, { on := 5, ground := Ground.data }], guard := none }) (v := ?v6pc) rfl (by kernel_rfl) (by kernel_rfl) (by kernel_rfl) (fun _ _ _ h => h) (Or.inl ⟨by rfl, ?y6pc⟩) (by assumption) ?r6pc
                case y6pc => (intro x hx; obtain ⟨hx0, hx1⟩ := hx; go_simp; try with_reducible rfl)
                try simp only [Act.put, List.setIfInBounds_toArray, List.set_cons_zero, List.set_cons_succ]
                refine wpAnyH_take (i := 7) (oi := { dst := some 46, op := Op.load 3 (Operand.tmp 45), type := 3, pos := "law.go:161", after := #[{ on := 6, ground := Ground.data }], guard := none }) (v := ?v7pc) rfl (by kernel_rfl) (by kernel_rfl) (by kernel_rfl) (fun _ _ _ h => h) (Or.inl ⟨by rfl, ?y7pc⟩) (by assumption) ?r7pc
                case y7pc => (intro x hx; obtain ⟨hx0, hx1⟩ := hx; go_simp; try with_reducible rfl)
                try simp only [Act.put, List.setIfInBounds_toArray, List.set_cons_zero, List.set_cons_succ]
                refine wpAnyH_take (i := 8) (oi := { dst := some 47, op := Op.binOp BinOp.eql 3 (Operand.tmp 42) (Operand.tmp 46) 3, type := 4, pos := "law.go:161", after := #[{ on := 3, ground := Ground.data }, { on := 7, ground := Ground.data }], guard := none }) (v := ?v8pc) rfl (by kernel_rfl) (by kernel_rfl) (by kernel_rfl) (fun _ _ _ h => h) (Or.inl ⟨by rfl, ?y8pc⟩) (by assumption) ?r8pc
                case y8pc => (intro x hx; obtain ⟨hx0, hx1⟩ := hx; go_simp; try with_reducible rfl)
                try simp only [Act.put, List.setIfInBounds_toArray, List.set_cons_zero, List.set_cons_succ]
                refine wpAnyH_take (i := 9) (oi := { dst := some 48, op := Op.move (Operand.tmp 47), type := 4, pos := "law.go:161", after := #[{ on := 8, ground := Ground.data }], guard := none }) (v := ?v9pc) rfl (by kernel_rfl) (by kernel_rfl) (by kernel_rfl) (fun _ _ _ h => h) (Or.inl ⟨by rfl, ?y9pc⟩) (by assumption) ?r9pc
                case y9pc => (intro x hx; obtain ⟨hx0, hx1⟩ := hx; go_simp; try with_reducible rfl)
                try simp only [Act.put, List.setIfInBounds_toArray, List.set_cons_zero, List.set_cons_succ]
                refine wpAnyH_take (i := 10) (oi := { dst := some 49, op := Op.move (Operand.tmp 12), type := 3, pos := "law.go:161", after := #[{ on := 9, ground := Ground.guard }], guard := some (9, true) }) (v := ?v10pc) rfl (by kernel_rfl) (by kernel_rfl) (by kernel_rfl) (fun _ _ _ h => h) (Or.inl ⟨by rfl, ?y10pc⟩) (by assumption) ?r10pc
                case y10pc => (intro x hx; obtain ⟨hx0, hx1⟩ := hx; go_simp; try with_reducible rfl)
                try simp only [Act.put, List.setIfInBounds_toArray, List.set_cons_zero, List.set_cons_succ]
                refine wpAnyH_take (i := 11) (oi := { dst := some 50, op := Op.move (Operand.tmp 10), type := 3, pos := "law.go:161", after := #[{ on := 9, ground := Ground.guard }], guard := some (9, true) }) (v := ?v11pc) rfl (by kernel_rfl) (by kernel_rfl) (by kernel_rfl) (fun _ _ _ h => h) (Or.inl ⟨by rfl, ?y11pc⟩) (by assumption) ?r11pc
                case y11pc => (intro x hx; obtain ⟨hx0, hx1⟩ := hx; go_simp; try with_reducible rfl)
                try simp only [Act.put, List.setIfInBounds_toArray, List.set_cons_zero, List.set_cons_succ]
                refine wpAnyH_take (i := 12) (oi := { dst := some 51, op := Op.binOp BinOp.gtr 3 (Operand.tmp 49) (Operand.tmp 50) 3, type := 4, pos := "law.go:161", after := #[{ on := 10, ground := Ground.data }, { on := 11, ground := Ground.data }, { on := 9, ground := Ground.guard }], guard := some (9, true) }) (v := ?v12pc) rfl (by kernel_rfl) (by kernel_rfl) (by kernel_rfl) (fun _ _ _ h => h) (Or.inl ⟨by rfl, ?y12pc⟩) (by assumption) ?r12pc
                case y12pc => (intro x hx; obtain ⟨hx0, hx1⟩ := hx; go_simp; try with_reducible rfl)
                try simp only [Act.put, List.setIfInBounds_toArray, List.set_cons_zero, List.set_cons_succ]
                refine wpAnyH_take (i := 13) (oi := { dst := some 52, op := Op.pick (Operand.tmp 48) (Operand.tmp 51) (Operand.const (Value.bool false)), type := 4, pos := "law.go:161", after := #[{ on := 9, ground := Ground.data }, { on := 12, ground := Ground.data }], guard := none }) (v := ?v13pc) rfl (by kernel_rfl) (by kernel_rfl) (by kernel_rfl) (fun _ _ _ h => h) (Or.inl ⟨by rfl, ?y13pc⟩) (by assumption) ?r13pc
                case y13pc => (intro x hx; obtain ⟨hx0, hx1⟩ := hx; go_simp; try with_reducible rfl)
                try simp only [Act.put, List.setIfInBounds_toArray, List.set_cons_zero, List.set_cons_succ]
                refine wpAnyH_done (by kernel_rfl) ?_ _
                go_upto_region 16 with fail
                refine wp_region_held_drew (S := (fun x => x.cell? ⟨b, off + k, none⟩ = some (.int .i64 xi) ∧ x.cell? ⟨b, off + i, none⟩ = some (.int .i64 xi))) (by kernel_rfl) (⟨x0, x1⟩) (fun hHeld => ?_)
                refine wpAnyH_take (i := 0) (oi := { dst := some 54, op := Op.move (Operand.tmp 0), type := 22, pos := "law.go:164", after := #[], guard := none }) (v := ?v0qc) rfl (by kernel_rfl) (by kernel_rfl) (by kernel_rfl) (fun _ _ _ h => h) (Or.inl ⟨by rfl, ?y0qc⟩) (by assumption) ?r0qc
                case y0qc => (intro x hx; obtain ⟨hx0, hx1⟩ := hx; go_simp; try with_reducible rfl)
                try simp only [Act.put, List.setIfInBounds_toArray, List.set_cons_zero, List.set_cons_succ]
                refine wpAnyH_take (i := 1) (oi := { dst := some 55, op := Op.move (Operand.tmp 12), type := 3, pos := "law.go:164", after := #[], guard := none }) (v := ?v1qc) rfl (by kernel_rfl) (by kernel_rfl) (by kernel_rfl) (fun _ _ _ h => h) (Or.inl ⟨by rfl, ?y1qc⟩) (by assumption) ?r1qc
                case y1qc => (intro x hx; obtain ⟨hx0, hx1⟩ := hx; go_simp; try with_reducible rfl)
                try simp only [Act.put, List.setIfInBounds_toArray, List.set_cons_zero, List.set_cons_succ]
                refine wpAnyH_take (i := 2) (oi := { dst := some 56, op := Op.indexAddr 22 (Operand.tmp 54) (Operand.tmp 55), type := 0, pos := "law.go:164", after := #[{ on := 0, ground := Ground.data }, { on := 1, ground := Ground.data }], guard := none }) (v := ?v2qc) rfl (by kernel_rfl) (by kernel_rfl) (by kernel_rfl) (fun _ _ _ h => h) (Or.inl ⟨by rfl, ?y2qc⟩) (by assumption) ?r2qc
                case y2qc => (intro x hx; obtain ⟨hx0, hx1⟩ := hx; go_simp; try with_reducible rfl)
                try simp only [Act.put, List.setIfInBounds_toArray, List.set_cons_zero, List.set_cons_succ]
                refine wpAnyH_take (i := 3) (oi := { dst := some 57, op := Op.load 3 (Operand.tmp 56), type := 3, pos := "law.go:164", after := #[{ on := 2, ground := Ground.data }], guard := none }) (v := ?v3qc) rfl (by kernel_rfl) (by kernel_rfl) (by kernel_rfl) (fun _ _ _ h => h) (Or.inl ⟨by rfl, ?y3qc⟩) (by assumption) ?r3qc
                case y3qc => (intro x hx; obtain ⟨hx0, hx1⟩ := hx; go_simp; try with_reducible rfl)
                try simp only [Act.put, List.setIfInBounds_toArray, List.set_cons_zero, List.set_cons_succ]
                refine wpAnyH_take (i := 4) (oi := { dst := some 58, op := Op.move (Operand.tmp 0), type := 22, pos := "law.go:164", after := #[], guard := none }) (v := ?v4qc) rfl (by kernel_rfl) (by kernel_rfl) (by kernel_rfl) (fun _ _ _ h => h) (Or.inl ⟨by rfl, ?y4qc⟩) (by assumption) ?r4qc
                case y4qc => (intro x hx; obtain ⟨hx0, hx1⟩ := hx; go_simp; try with_reducible rfl)
                try simp only [Act.put, List.setIfInBounds_toArray, List.set_cons_zero, List.set_cons_succ]
                refine wpAnyH_take (i := 5) (oi := { dst := some 59, op := Op.move (Operand.tmp 9), type := 3, pos := "law.go:164", after := #[], guard := none }) (v := ?v5qc) rfl (by kernel_rfl) (by kernel_rfl) (by kernel_rfl) (fun _ _ _ h => h) (Or.inl ⟨by rfl, ?y5qc⟩) (by assumption) ?r5qc
                case y5qc => (intro x hx; obtain ⟨hx0, hx1⟩ := hx; go_simp; try with_reducible rfl)
                try simp only [Act.put, List.setIfInBounds_toArray, List.set_cons_zero, List.set_cons_succ]
                refine wpAnyH_take (i := 6) (oi := { dst := some 60, op := Op.indexAddr 22 (Operand.tmp 58) (Operand.tmp 59), type := 0, pos := "law.go:164", after := #[{ on := 4, ground := Ground.data }, { on := 5, ground := Ground.data }], guard := none }) (v := ?v6qc) rfl (by kernel_rfl) (by kernel_rfl) (by kernel_rfl) (fun _ _ _ h => h) (Or.inl ⟨by rfl, ?y6qc⟩) (by assumption) ?r6qc
                case y6qc => (intro x hx; obtain ⟨hx0, hx1⟩ := hx; go_simp; try with_reducible rfl)
                try simp only [Act.put, List.setIfInBounds_toArray, List.set_cons_zero, List.set_cons_succ]
                refine wpAnyH_take (i := 7) (oi := { dst := some 61, op := Op.load 3 (Operand.tmp 60), type := 3, pos := "law.go:164", after := #[{ on := 6, ground := Ground.data }], guard := none }) (v := ?v7qc) rfl (by kernel_rfl) (by kernel_rfl) (by kernel_rfl) (fun _ _ _ h => h) (Or.inl ⟨by rfl, ?y7qc⟩) (by assumption) ?r7qc
                case y7qc => (intro x hx; obtain ⟨hx0, hx1⟩ := hx; go_simp; try with_reducible rfl)
                try simp only [Act.put, List.setIfInBounds_toArray, List.set_cons_zero, List.set_cons_succ]
                refine wpAnyH_take (i := 8) (oi := { dst := some 62, op := Op.binOp BinOp.eql 3 (Operand.tmp 57) (Operand.tmp 61) 3, type := 4, pos := "law.go:164", after := #[{ on := 3, ground := Ground.data }, { on := 7, ground := Ground.data }], guard := none }) (v := ?v8qc) rfl (by kernel_rfl) (by kernel_rfl) (by kernel_rfl) (fun _ _ _ h => h) (Or.inl ⟨by rfl, ?y8qc⟩) (by assumption) ?r8qc
                case y8qc => (intro x hx; obtain ⟨hx0, hx1⟩ := hx; go_simp; try with_reducible rfl)
                try simp only [Act.put, List.setIfInBounds_toArray, List.set_cons_zero, List.set_cons_succ]
                refine wpAnyH_take (i := 9) (oi := { dst := some 63, op := Op.move (Operand.tmp 62), type := 4, pos := "law.go:164", after := #[{ on := 8, ground := Ground.data }], guard := none }) (v := ?v9qc) rfl (by kernel_rfl) (by kernel_rfl) (by kernel_rfl) (fun _ _ _ h => h) (Or.inl ⟨by rfl, ?y9qc⟩) (by assumption) ?r9qc
                case y9qc => (intro x hx; obtain ⟨hx0, hx1⟩ := hx; go_simp; try with_reducible rfl)
                try simp only [Act.put, List.setIfInBounds_toArray, List.set_cons_zero, List.set_cons_succ]
                refine wpAnyH_take (i := 10) (oi := { dst := some 64, op := Op.move (Operand.tmp 12), type := 3, pos := "law.go:164", after := #[{ on := 9, ground := Ground.guard }], guard := some (9, true) }) (v := ?v10qc) rfl (by kernel_rfl) (by kernel_rfl) (by kernel_rfl) (fun _ _ _ h => h) (Or.inl ⟨by rfl, ?y10qc⟩) (by assumption) ?r10qc
                case y10qc => (intro x hx; obtain ⟨hx0, hx1⟩ := hx; go_simp; try with_reducible rfl)
                try simp only [Act.put, List.setIfInBounds_toArray, List.set_cons_zero, List.set_cons_succ]
                refine wpAnyH_take (i := 11) (oi := { dst := some 65, op := Op.move (Operand.tmp 9), type := 3, pos := "law.go:164", after := #[{ on := 9, ground := Ground.guard }], guard := some (9, true) }) (v := ?v11qc) rfl (by kernel_rfl) (by kernel_rfl) (by kernel_rfl) (fun _ _ _ h => h) (Or.inl ⟨by rfl, ?y11qc⟩) (by assumption) ?r11qc
                case y11qc => (intro x hx; obtain ⟨hx0, hx1⟩ := hx; go_simp; try with_reducible rfl)
                try simp only [Act.put, List.setIfInBounds_toArray, List.set_cons_zero, List.set_cons_succ]
                refine wpAnyH_take (i := 12) (oi := { dst := some 66, op := Op.binOp BinOp.lss 3 (Operand.tmp 64) (Operand.tmp 65) 3, type := 4, pos := "law.go:164", after := #[{ on := 10, ground := Ground.data }, { on := 11, ground := Ground.data }, { on := 9, ground := Ground.guard }], guard := some (9, true) }) (v := ?v12qc) rfl (by kernel_rfl) (by kernel_rfl) (by kernel_rfl) (fun _ _ _ h => h) (Or.inl ⟨by rfl, ?y12qc⟩) (by assumption) ?r12qc
                case y12qc => (intro x hx; obtain ⟨hx0, hx1⟩ := hx; go_simp; try with_reducible rfl)
                try simp only [Act.put, List.setIfInBounds_toArray, List.set_cons_zero, List.set_cons_succ]
                refine wpAnyH_take (i := 13) (oi := { dst := some 67, op := Op.pick (Operand.tmp 63) (Operand.tmp 66) (Operand.const (Value.bool false)), type := 4, pos := "law.go:164", after := #[{ on := 9, ground := Ground.data }, { on := 12, ground := Ground.data }], guard := none }) (v := ?v13qc) rfl (by kernel_rfl) (by kernel_rfl) (by kernel_rfl) (fun _ _ _ h => h) (Or.inl ⟨by rfl, ?y13qc⟩) (by assumption) ?r13qc
                case y13qc => (intro x hx; obtain ⟨hx0, hx1⟩ := hx; go_simp; try with_reducible rfl)
                try simp only [Act.put, List.setIfInBounds_toArray, List.set_cons_zero, List.set_cons_succ]
                refine wpAnyH_done (by kernel_rfl) ?_ _
                go_wp2_with fail
                go_roundw
                case rel => exact ⟨k + 1, by omega, by first | rfl | simp, by rw [HN.out.1], by rw [HN.out.2], HBK.out.drew.drew⟩
                case measure => (simp [intOf]; omega)
          · obtain ⟨xk, hxk⟩ : ∃ xk, ks.getD k 0 = xk := ⟨_, rfl⟩
            rw [hxk] at x0 he
            have hne : (xk == xi) = false := by simpa using he
            have HN : Hid (lastN ks i (k + 1) = LA ∧ firstN ks i (k + 1) = FI) := by
              unfold Hid
              simp only [lastN, firstN]
              rw [hxk, HXI.out]
              refine ⟨?_, ?_⟩
              · rw [if_neg (fun q => he q.1)]; exact HLF.out.1
              · rw [if_neg (fun q => he q.1)]; exact HLF.out.2
            clear hxk
            go_upto_region 14 with fail
            refine wp_region_held_drew (S := (fun x => x.cell? ⟨b, off + k, none⟩ = some (.int .i64 xk) ∧ x.cell? ⟨b, off + i, none⟩ = some (.int .i64 xi))) (by kernel_rfl) (⟨x0, x1⟩) (fun hHeld => ?_)
            refine wpAnyH_take (i := 0) (oi := { dst := some 39, op := Op.move (Operand.tmp 0), type := 22, pos := "law.go:161", after := #[], guard := none }) (v := ?v0pd) rfl (by kernel_rfl) (by kernel_rfl) (by kernel_rfl) (fun _ _ _ h => h) (Or.inl ⟨by rfl, ?y0pd⟩) (by assumption) ?r0pd
            case y0pd => (intro x hx; obtain ⟨hx0, hx1⟩ := hx; go_simp; try with_reducible rfl)
            try simp only [Act.put, List.setIfInBounds_toArray, List.set_cons_zero, List.set_cons_succ]
            refine wpAnyH_take (i := 1) (oi := { dst := some 40, op := Op.move (Operand.tmp 12), type := 3, pos := "law.go:161", after := #[], guard := none }) (v := ?v1pd) rfl (by kernel_rfl) (by kernel_rfl) (by kernel_rfl) (fun _ _ _ h => h) (Or.inl ⟨by rfl, ?y1pd⟩) (by assumption) ?r1pd
            case y1pd => (intro x hx; obtain ⟨hx0, hx1⟩ := hx; go_simp; try with_reducible rfl)
            try simp only [Act.put, List.setIfInBounds_toArray, List.set_cons_zero, List.set_cons_succ]
            refine wpAnyH_take (i := 2) (oi := { dst := some 41, op := Op.indexAddr 22 (Operand.tmp 39) (Operand.tmp 40), type := 0, pos := "law.go:161", after := #[{ on := 0, ground := Ground.data }, { on := 1, ground := Ground.data }], guard := none }) (v := ?v2pd) rfl (by kernel_rfl) (by kernel_rfl) (by kernel_rfl) (fun _ _ _ h => h) (Or.inl ⟨by rfl, ?y2pd⟩) (by assumption) ?r2pd
            case y2pd => (intro x hx; obtain ⟨hx0, hx1⟩ := hx; go_simp; try with_reducible rfl)
            try simp only [Act.put, List.setIfInBounds_toArray, List.set_cons_zero, List.set_cons_succ]
            refine wpAnyH_take (i := 3) (oi := { dst := some 42, op := Op.load 3 (Operand.tmp 41), type := 3, pos := "law.go:161", after := #[{ on := 2, ground := Ground.data }], guard := none }) (v := ?v3pd) rfl (by kernel_rfl) (by kernel_rfl) (by kernel_rfl) (fun _ _ _ h => h) (Or.inl ⟨by rfl, ?y3pd⟩) (by assumption) ?r3pd
            case y3pd => (intro x hx; obtain ⟨hx0, hx1⟩ := hx; go_simp; try with_reducible rfl)
            try simp only [Act.put, List.setIfInBounds_toArray, List.set_cons_zero, List.set_cons_succ]
            refine wpAnyH_take (i := 4) (oi := { dst := some 43, op := Op.move (Operand.tmp 0), type := 22, pos := "law.go:161", after := #[], guard := none }) (v := ?v4pd) rfl (by kernel_rfl) (by kernel_rfl) (by kernel_rfl) (fun _ _ _ h => h) (Or.inl ⟨by rfl, ?y4pd⟩) (by assumption) ?r4pd
            case y4pd => (intro x hx; obtain ⟨hx0, hx1⟩ := hx; go_simp; try with_reducible rfl)
            try simp only [Act.put, List.setIfInBounds_toArray, List.set_cons_zero, List.set_cons_succ]
            refine wpAnyH_take (i := 5) (oi := { dst := some 44, op := Op.move (Operand.tmp 9), type := 3, pos := "law.go:161", after := #[], guard := none }) (v := ?v5pd) rfl (by kernel_rfl) (by kernel_rfl) (by kernel_rfl) (fun _ _ _ h => h) (Or.inl ⟨by rfl, ?y5pd⟩) (by assumption) ?r5pd
            case y5pd => (intro x hx; obtain ⟨hx0, hx1⟩ := hx; go_simp; try with_reducible rfl)
            try simp only [Act.put, List.setIfInBounds_toArray, List.set_cons_zero, List.set_cons_succ]
            refine wpAnyH_take (i := 6) (oi := { dst := some 45, op := Op.indexAddr 22 (Operand.tmp 43) (Operand.tmp 44), type := 0, pos := "law.go:161", after := #[{ on := 4, ground := Ground.data }, { on := 5, ground := Ground.data }], guard := none }) (v := ?v6pd) rfl (by kernel_rfl) (by kernel_rfl) (by kernel_rfl) (fun _ _ _ h => h) (Or.inl ⟨by rfl, ?y6pd⟩) (by assumption) ?r6pd
            case y6pd => (intro x hx; obtain ⟨hx0, hx1⟩ := hx; go_simp; try with_reducible rfl)
            try simp only [Act.put, List.setIfInBounds_toArray, List.set_cons_zero, List.set_cons_succ]
            refine wpAnyH_take (i := 7) (oi := { dst := some 46, op := Op.load 3 (Operand.tmp 45), type := 3, pos := "law.go:161", after := #[{ on := 6, ground := Ground.data }], guard := none }) (v := ?v7pd) rfl (by kernel_rfl) (by kernel_rfl) (by kernel_rfl) (fun _ _ _ h => h) (Or.inl ⟨by rfl, ?y7pd⟩) (by assumption) ?r7pd
            case y7pd => (intro x hx; obtain ⟨hx0, hx1⟩ := hx; go_simp; try with_reducible rfl)
            try simp only [Act.put, List.setIfInBounds_toArray, List.set_cons_zero, List.set_cons_succ]
            refine wpAnyH_take (i := 8) (oi := { dst := some 47, op := Op.binOp BinOp.eql 3 (Operand.tmp 42) (Operand.tmp 46) 3, type := 4, pos := "law.go:161", after := #[{ on := 3, ground := Ground.data }, { on := 7, ground := Ground.data }], guard := none }) (v := ?v8pd) rfl (by kernel_rfl) (by kernel_rfl) (by kernel_rfl) (fun _ _ _ h => h) (Or.inl ⟨by rfl, ?y8pd⟩) (by assumption) ?r8pd
            case y8pd => (intro x hx; obtain ⟨hx0, hx1⟩ := hx; go_simp; try with_reducible rfl)
            try simp only [Act.put, List.setIfInBounds_toArray, List.set_cons_zero, List.set_cons_succ]
            refine wpAnyH_take (i := 9) (oi := { dst := some 48, op := Op.move (Operand.tmp 47), type := 4, pos := "law.go:161", after := #[{ on := 8, ground := Ground.data }], guard := none }) (v := ?v9pd) rfl (by kernel_rfl) (by kernel_rfl) (by kernel_rfl) (fun _ _ _ h => h) (Or.inl ⟨by rfl, ?y9pd⟩) (by assumption) ?r9pd
            case y9pd => (intro x hx; obtain ⟨hx0, hx1⟩ := hx; go_simp; try with_reducible rfl)
            try simp only [Act.put, List.setIfInBounds_toArray, List.set_cons_zero, List.set_cons_succ]
            refine wpAnyH_take (i := 10) (oi := { dst := some 49, op := Op.move (Operand.tmp 12), type := 3, pos := "law.go:161", after := #[{ on := 9, ground := Ground.guard }], guard := some (9, true) }) (v := undef) rfl (by kernel_rfl) (by kernel_rfl) (by kernel_rfl) (fun _ _ _ h => h) (Or.inr ⟨by rfl, rfl⟩) (by assumption) ?_
            try simp only [Act.put, List.setIfInBounds_toArray, List.set_cons_zero, List.set_cons_succ]
            refine wpAnyH_take (i := 11) (oi := { dst := some 50, op := Op.move (Operand.tmp 10), type := 3, pos := "law.go:161", after := #[{ on := 9, ground := Ground.guard }], guard := some (9, true) }) (v := undef) rfl (by kernel_rfl) (by kernel_rfl) (by kernel_rfl) (fun _ _ _ h => h) (Or.inr ⟨by rfl, rfl⟩) (by assumption) ?_
            try simp only [Act.put, List.setIfInBounds_toArray, List.set_cons_zero, List.set_cons_succ]
            refine wpAnyH_take (i := 12) (oi := { dst := some 51, op := Op.binOp BinOp.gtr 3 (Operand.tmp 49) (Operand.tmp 50) 3, type := 4, pos := "law.go:161", after := #[{ on := 10, ground := Ground.data }, { on := 11, ground := Ground.data }, { on := 9, ground := Ground.guard }], guard := some (9, true) }) (v := undef) rfl (by kernel_rfl) (by kernel_rfl) (by kernel_rfl) (fun _ _ _ h => h) (Or.inr ⟨by rfl, rfl⟩) (by assumption) ?_
            try simp only [Act.put, List.setIfInBounds_toArray, List.set_cons_zero, List.set_cons_succ]
            refine wpAnyH_take (i := 13) (oi := { dst := some 52, op := Op.pick (Operand.tmp 48) (Operand.tmp 51) (Operand.const (Value.bool false)), type := 4, pos := "law.go:161", after := #[{ on := 9, ground := Ground.data }, { on := 12, ground := Ground.data }], guard := none }) (v := ?v13pd) rfl (by kernel_rfl) (by kernel_rfl) (by kernel_rfl) (fun _ _ _ h => h) (Or.inl ⟨by rfl, ?y13pd⟩) (by assumption) ?r13pd
            case y13pd => (intro x hx; obtain ⟨hx0, hx1⟩ := hx; go_simp; try with_reducible rfl)
            try simp only [Act.put, List.setIfInBounds_toArray, List.set_cons_zero, List.set_cons_succ]
            refine wpAnyH_done (by kernel_rfl) ?_ _
            go_upto_region 16 with fail
            refine wp_region_held_drew (S := (fun x => x.cell? ⟨b, off + k, none⟩ = some (.int .i64 xk) ∧ x.cell? ⟨b, off + i, none⟩ = some (.int .i64 xi))) (by kernel_rfl) (⟨x0, x1⟩) (fun hHeld => ?_)
            refine wpAnyH_take (i := 0) (oi := { dst := some 54, op := Op.move (Operand.tmp 0), type := 22, pos := "law.go:164", after := #[], guard := none }) (v := ?v0qd) rfl (by kernel_rfl) (by kernel_rfl) (by kernel_rfl) (fun _ _ _ h => h) (Or.inl ⟨by rfl, ?y0qd⟩) (by assumption) ?r0qd
            case y0qd => (intro x hx; obtain ⟨hx0, hx1⟩ := hx; go_simp; try with_reducible rfl)
            try simp only [Act.put, List.setIfInBounds_toArray, List.set_cons_zero, List.set_cons_succ]
            refine wpAnyH_take (i := 1) (oi := { dst := some 55, op := Op.move (Operand.tmp 12), type := 3, pos := "law.go:164", after := #[], guard := none }) (v := ?v1qd) rfl (by kernel_rfl) (by kernel_rfl) (by kernel_rfl) (fun _ _ _ h => h) (Or.inl ⟨by rfl, ?y1qd⟩) (by assumption) ?r1qd
            case y1qd => (intro x hx; obtain ⟨hx0, hx1⟩ := hx; go_simp; try with_reducible rfl)
            try simp only [Act.put, List.setIfInBounds_toArray, List.set_cons_zero, List.set_cons_succ]
            refine wpAnyH_take (i := 2) (oi := { dst := some 56, op := Op.indexAddr 22 (Operand.tmp 54) (Operand.tmp 55), type := 0, pos := "law.go:164", after := #[{ on := 0, ground := Ground.data }, { on := 1, ground := Ground.data }], guard := none }) (v := ?v2qd) rfl (by kernel_rfl) (by kernel_rfl) (by kernel_rfl) (fun _ _ _ h => h) (Or.inl ⟨by rfl, ?y2qd⟩) (by assumption) ?r2qd
            case y2qd => (intro x hx; obtain ⟨hx0, hx1⟩ := hx; go_simp; try with_reducible rfl)
            try simp only [Act.put, List.setIfInBounds_toArray, List.set_cons_zero, List.set_cons_succ]
            refine wpAnyH_take (i := 3) (oi := { dst := some 57, op := Op.load 3 (Operand.tmp 56), type := 3, pos := "law.go:164", after := #[{ on := 2, ground := Ground.data }], guard := none }) (v := ?v3qd) rfl (by kernel_rfl) (by kernel_rfl) (by kernel_rfl) (fun _ _ _ h => h) (Or.inl ⟨by rfl, ?y3qd⟩) (by assumption) ?r3qd
            case y3qd => (intro x hx; obtain ⟨hx0, hx1⟩ := hx; go_simp; try with_reducible rfl)
            try simp only [Act.put, List.setIfInBounds_toArray, List.set_cons_zero, List.set_cons_succ]
            refine wpAnyH_take (i := 4) (oi := { dst := some 58, op := Op.move (Operand.tmp 0), type := 22, pos := "law.go:164", after := #[], guard := none }) (v := ?v4qd) rfl (by kernel_rfl) (by kernel_rfl) (by kernel_rfl) (fun _ _ _ h => h) (Or.inl ⟨by rfl, ?y4qd⟩) (by assumption) ?r4qd
            case y4qd => (intro x hx; obtain ⟨hx0, hx1⟩ := hx; go_simp; try with_reducible rfl)
            try simp only [Act.put, List.setIfInBounds_toArray, List.set_cons_zero, List.set_cons_succ]
            refine wpAnyH_take (i := 5) (oi := { dst := some 59, op := Op.move (Operand.tmp 9), type := 3, pos := "law.go:164", after := #[], guard := none }) (v := ?v5qd) rfl (by kernel_rfl) (by kernel_rfl) (by kernel_rfl) (fun _ _ _ h => h) (Or.inl ⟨by rfl, ?y5qd⟩) (by assumption) ?r5qd
            case y5qd => (intro x hx; obtain ⟨hx0, hx1⟩ := hx; go_simp; try with_reducible rfl)
            try simp only [Act.put, List.setIfInBounds_toArray, List.set_cons_zero, List.set_cons_succ]
            refine wpAnyH_take (i := 6) (oi := { dst := some 60, op := Op.indexAddr 22 (Operand.tmp 58) (Operand.tmp 59), type := 0, pos := "law.go:164", after := #[{ on := 4, ground := Ground.data }, { on := 5, ground := Ground.data }], guard := none }) (v := ?v6qd) rfl (by kernel_rfl) (by kernel_rfl) (by kernel_rfl) (fun _ _ _ h => h) (Or.inl ⟨by rfl, ?y6qd⟩) (by assumption) ?r6qd
            case y6qd => (intro x hx; obtain ⟨hx0, hx1⟩ := hx; go_simp; try with_reducible rfl)
            try simp only [Act.put, List.setIfInBounds_toArray, List.set_cons_zero, List.set_cons_succ]
            refine wpAnyH_take (i := 7) (oi := { dst := some 61, op := Op.load 3 (Operand.tmp 60), type := 3, pos := "law.go:164", after := #[{ on := 6, ground := Ground.data }], guard := none }) (v := ?v7qd) rfl (by kernel_rfl) (by kernel_rfl) (by kernel_rfl) (fun _ _ _ h => h) (Or.inl ⟨by rfl, ?y7qd⟩) (by assumption) ?r7qd
            case y7qd => (intro x hx; obtain ⟨hx0, hx1⟩ := hx; go_simp; try with_reducible rfl)
            try simp only [Act.put, List.setIfInBounds_toArray, List.set_cons_zero, List.set_cons_succ]
            refine wpAnyH_take (i := 8) (oi := { dst := some 62, op := Op.binOp BinOp.eql 3 (Operand.tmp 57) (Operand.tmp 61) 3, type := 4, pos := "law.go:164", after := #[{ on := 3, ground := Ground.data }, { on := 7, ground := Ground.data }], guard := none }) (v := ?v8qd) rfl (by kernel_rfl) (by kernel_rfl) (by kernel_rfl) (fun _ _ _ h => h) (Or.inl ⟨by rfl, ?y8qd⟩) (by assumption) ?r8qd
            case y8qd => (intro x hx; obtain ⟨hx0, hx1⟩ := hx; go_simp; try with_reducible rfl)
            try simp only [Act.put, List.setIfInBounds_toArray, List.set_cons_zero, List.set_cons_succ]
            refine wpAnyH_take (i := 9) (oi := { dst := some 63, op := Op.move (Operand.tmp 62), type := 4, pos := "law.go:164", after := #[{ on := 8, ground := Ground.data }], guard := none }) (v := ?v9qd) rfl (by kernel_rfl) (by kernel_rfl) (by kernel_rfl) (fun _ _ _ h => h) (Or.inl ⟨by rfl, ?y9qd⟩) (by assumption) ?r9qd
            case y9qd => (intro x hx; obtain ⟨hx0, hx1⟩ := hx; go_simp; try with_reducible rfl)
            try simp only [Act.put, List.setIfInBounds_toArray, List.set_cons_zero, List.set_cons_succ]
            refine wpAnyH_take (i := 10) (oi := { dst := some 64, op := Op.move (Operand.tmp 12), type := 3, pos := "law.go:164", after := #[{ on := 9, ground := Ground.guard }], guard := some (9, true) }) (v := undef) rfl (by kernel_rfl) (by kernel_rfl) (by kernel_rfl) (fun _ _ _ h => h) (Or.inr ⟨by rfl, rfl⟩) (by assumption) ?_
            try simp only [Act.put, List.setIfInBounds_toArray, List.set_cons_zero, List.set_cons_succ]
            refine wpAnyH_take (i := 11) (oi := { dst := some 65, op := Op.move (Operand.tmp 9), type := 3, pos := "law.go:164", after := #[{ on := 9, ground := Ground.guard }], guard := some (9, true) }) (v := undef) rfl (by kernel_rfl) (by kernel_rfl) (by kernel_rfl) (fun _ _ _ h => h) (Or.inr ⟨by rfl, rfl⟩) (by assumption) ?_
            try simp only [Act.put, List.setIfInBounds_toArray, List.set_cons_zero, List.set_cons_succ]
            refine wpAnyH_take (i := 12) (oi := { dst := some 66, op := Op.binOp BinOp.lss 3 (Operand.tmp 64) (Operand.tmp 65) 3, type := 4, pos := "law.go:164", after := #[{ on := 10, ground := Ground.data }, { on := 11, ground := Ground.data }, { on := 9, ground := Ground.guard }], guard := some (9, true) }) (v := undef) rfl (by kernel_rfl) (by kernel_rfl) (by kernel_rfl) (fun _ _ _ h => h) (Or.inr ⟨by rfl, rfl⟩) (by assumption) ?_
            try simp only [Act.put, List.setIfInBounds_toArray, List.set_cons_zero, List.set_cons_succ]
            refine wpAnyH_take (i := 13) (oi := { dst := some 67, op := Op.pick (Operand.tmp 63) (Operand.tmp 66) (Operand.const (Value.bool false)), type := 4, pos := "law.go:164", after := #[{ on := 9, ground := Ground.data }, { on := 12, ground := Ground.data }], guard := none }) (v := ?v13qd) rfl (by kernel_rfl) (by kernel_rfl) (by kernel_rfl) (fun _ _ _ h => h) (Or.inl ⟨by rfl, ?y13qd⟩) (by assumption) ?r13qd
            case y13qd => (intro x hx; obtain ⟨hx0, hx1⟩ := hx; go_simp; try with_reducible rfl)
            try simp only [Act.put, List.setIfInBounds_toArray, List.set_cons_zero, List.set_cons_succ]
            refine wpAnyH_done (by kernel_rfl) ?_ _
            go_wp2_with fail
            go_roundw
            case rel => exact ⟨k + 1, by omega, by first | rfl | simp, by rw [HN.out.1], by rw [HN.out.2], HBK.out.drew.drew⟩
            case measure => (simp [intOf]; omega)
        · have dk : ¬ ((k : Int) < (len : Int)) := by omega
          obtain rfl : k = len := by omega
          have hgot := got_last ks k i hc
          rw [HM.out, HXI.out, HLF.out.1] at hgot
          have hnot := got_not ks k xi
          rw [HM.out] at hnot
          have HGOT : Hid _ := And.intro hgot hnot
          have HTW : Hid _ := T1.out.below HBK.out
          have x1 := HCL.out wr HBK.out i hc
          rw [HXI.out] at x1
          have hcu : ∀ u, Below wr.heap.size wr u → u.cell? ⟨b, off + i, none⟩ = some (.int .i64 xi) ∧ Hid (Below u1.heap.size u1 u) := fun u hu => by
            have q : Below u1.heap.size u1 u := HBK.out.trans (hu.mono HBK.out.size)
            have h9 := HCL.out u q i hc
            rw [HXI.out] at h9
            exact ⟨h9, q⟩
          have HCU : Hid _ := hcu
          have wi : IntKind.i64.wrap ((i : Int) + 1) = (i : Int) + 1 := by have := HHS.out; rw [IntKind.wrap_i64]; omega
          have wG : IntKind.i64.wrap ((GD : Int) + 1) = (GD : Int) + 1 := by have := HHS.out; have := HGUL.out; rw [IntKind.wrap_i64]; omega
          have wU : IntKind.i64.wrap ((UN : Int) + 1) = (UN : Int) + 1 := by have := HHS.out; have := HGUL.out; rw [IntKind.wrap_i64]; omega
          clear hgot hnot hcu hLi
          cases hm : mayB xi with
          | true =>
            have hgd : good ks (i + 1) = GD + 1 := by
              simp only [good]
              rw [HXI.out, hm, if_pos rfl, HGU.out.1]
            have HMM : Hid _ := hm
            have HGD : Hid _ := hgd
            have HGT2 : Hid (got (at1 M xi) = .tuple #[.int .i64 (LA : Int), .bool true]) := by unfold Hid; rw [HGOT.out.1 hm]; rfl
            cases FI with
            | true =>
              have hun : unlike ks k (i + 1) = UN + 1 := by
                simp only [unlike]
                rw [HLF.out.2, HXI.out, hm, if_pos ⟨rfl, rfl⟩, HGU.out.2]
              have HUN : Hid _ := hun
              clear hgd hun hm
              go_wp2_with (first
                | (go_at_call 19; refine (get_t gt h1 xi M _ HTW.out).mono ?_; rintro e u6 ⟨rfl, t6, b6⟩; rw [HGT2.out]; obtain ⟨x6, B6⟩ := HCU.out u6 b6; clear t6 b6 x1)
                | (go_at_call 27; refine (may_any xi _).mono ?_; rintro e u ⟨rfl, rfl⟩; rw [HMM.out]))
              go_roundw
              case rel => exact ⟨i + 1, by omega, by first | rfl | simp, by rw [HGD.out]; first | rfl | simp, by rw [HUN.out]; first | rfl | simp, B6⟩
              case measure => (simp [intOf]; omega)
            | false =>
              have hun : unlike ks k (i + 1) = UN := by
                simp only [unlike]
                rw [HLF.out.2, if_neg (fun q => by cases q.1), HGU.out.2]
                rfl
              have HUN : Hid _ := hun
              clear hgd hun hm
              go_wp2_with (first
                | (go_at_call 19; refine (get_t gt h1 xi M _ HTW.out).mono ?_; rintro e u6 ⟨rfl, t6, b6⟩; rw [HGT2.out]; obtain ⟨x6, B6⟩ := HCU.out u6 b6; clear t6 b6 x1)
                | (go_at_call 27; refine (may_any xi _).mono ?_; rintro e u ⟨rfl, rfl⟩; rw [HMM.out]))
              go_roundw
              case rel => exact ⟨i + 1, by omega, by first | rfl | simp, by rw [HGD.out]; first | rfl | simp, by rw [HUN.out], B6⟩
              case measure => (simp [intOf]; omega)
          | false =>
            have hgd : good ks (i + 1) = GD := by
              simp only [good]
              rw [HXI.out, hm, if_neg (by decide), HGU.out.1]
              rfl
            have hun : unlike ks k (i + 1) = UN := by
              simp only [unlike]
              rw [HXI.out, hm, if_neg (fun q => by cases q.2), HGU.out.2]
              rfl
            have HMM : Hid _ := hm
            have HGD : Hid _ := hgd
            have HUN : Hid _ := hun
            have HGT2 : Hid (got (at1 M xi) = .tuple #[.int .i64 0, .bool false]) := by unfold Hid; rw [HGOT.out.2 hm]; rfl
            clear hgd hun hm
            cases FI with
            | true =>
              go_wp2_with (first
                | (go_at_call 19; refine (get_t gt h1 xi M _ HTW.out).mono ?_; rintro e u6 ⟨rfl, t6, b6⟩; rw [HGT2.out]; obtain ⟨x6, B6⟩ := HCU.out u6 b6; clear t6 b6 x1)
                | (go_at_call 27; refine (may_any xi _).mono ?_; rintro e u ⟨rfl, rfl⟩; rw [HMM.out]))
              go_roundw
              case rel => exact ⟨i + 1, by omega, by first | rfl | simp, by rw [HGD.out], by rw [HUN.out], B6⟩
              case measure => (simp [intOf]; omega)
            | false =>
              go_wp2_with (first
                | (go_at_call 19; refine (get_t gt h1 xi M _ HTW.out).mono ?_; rintro e u6 ⟨rfl, t6, b6⟩; rw [HGT2.out]; obtain ⟨x6, B6⟩ := HCU.out u6 b6; clear t6 b6 x1)
                | (go_at_call 27; refine (may_any xi _).mono ?_; rintro e u ⟨rfl, rfl⟩; rw [HMM.out]))
              go_roundw
              case rel => exact ⟨i + 1, by omega, by first | rfl | simp, by rw [HGD.out], by rw [HUN.out], B6⟩
              case measure => (simp [intOf]; omega)
    · have dc : ¬ ((i : Int) < (len : Int)) := by omega
      obtain rfl : i = len := by omega
      have hhe := here_is ks ask i
      have hnm := num_fill ks i i (Nat.le_refl _)
      rw [HM.out] at hhe hnm
      have HZ : Hid _ := And.intro hhe hnm
      have HGG : Hid (GD = GL) := by unfold Hid; rw [← HGU.out.1]; exact HGL.out
      obtain rfl := HGG.out
      clear hhe hnm
      go_wp2_with fail
      go_loopw [15, 16] (fun s15 s16 wr => ∃ k : Nat, k ≤ i ∧ s16 = .int .i64 (k : Int) ∧ s15 = .bool (hereN ks ask k) ∧ Hid (Below u1.heap.size u1 wr)) (fun _ k _ => i - (intOf k).toNat)
      case atStart => exact ⟨0, by omega, rfl, rfl, HB⟩
      case round =>
        obtain ⟨k, hk, rfl, rfl, HBK⟩ := hrel
        obtain ⟨HE, hHE⟩ : ∃ HE, hereN ks ask k = HE := ⟨_, rfl⟩
        rw [hHE]
        have HHE : Hid _ := hHE
        clear hHE
        by_cases hkc : k < i
        · have dk : (k : Int) < (i : Int) := by omega
          have wk : IntKind.i64.wrap ((k : Int) + 1) = (k : Int) + 1 := by have := HHS.out; rw [IntKind.wrap_i64]; omega
          have hcells : ∃ b off, a = some ⟨b, off, none⟩ ∧ wr.cell? ⟨b, off + k, none⟩ = some (.int .i64 (ks.getD k 0)) := by
            obtain ⟨b, off, h1, h2, h3⟩ := ReadsI.pos RR1.out (show 0 < i by omega)
            exact ⟨b, off, h1, (HBK.out.cell (p := ⟨b, off + k, none⟩) h2).trans (h3 k hkc)⟩
          obtain ⟨b, off, rfl, x0⟩ := hcells
          by_cases he : ks.getD k 0 = ask
          · rw [he] at x0
            cases hm : mayB ask with
            | true =>
              have HN : Hid (hereN ks ask (k + 1) = true) := by
                unfold Hid
                simp only [hereN]
                rw [if_pos ⟨he, hm⟩]
              have HMM : Hid _ := hm
              clear he hm
              go_wp2_with (first | (go_at_call 27; refine (may_any ask _).mono ?_; rintro e u ⟨rfl, rfl⟩; rw [HMM.out]))
              go_roundw
              case rel => exact ⟨k + 1, by omega, by first | rfl | simp, by rw [HN.out], HBK⟩
              case measure => (simp [intOf]; omega)
            | false =>
              have HN : Hid (hereN ks ask (k + 1) = HE) := by
                unfold Hid
                simp only [hereN]
                rw [if_neg (fun q => by rw [hm] at q; cases q.2)]
                exact HHE.out
              have HMM : Hid _ := hm
              clear he hm
              go_wp2_with (first | (go_at_call 27; refine (may_any ask _).mono ?_; rintro e u ⟨rfl, rfl⟩; rw [HMM.out]))
              go_roundw
              case rel => exact ⟨k + 1, by omega, by first | rfl | simp, by rw [HN.out], HBK⟩
              case measure => (simp [intOf]; omega)
          · obtain ⟨xk, hxk⟩ : ∃ xk, ks.getD k 0 = xk := ⟨_, rfl⟩
            rw [hxk] at x0 he
            have hne : (xk == ask) = false := by simpa using he
            have HN : Hid (hereN ks ask (k + 1) = HE) := by
              unfold Hid
              simp only [hereN]
              rw [hxk, if_neg (fun q => he q.1)]
              exact HHE.out
            clear hxk
            go_wp2_with fail
            go_roundw
            case rel => exact ⟨k + 1, by omega, by first | rfl | simp, by rw [HN.out], HBK⟩
            case measure => (simp [intOf]; omega)
        · have dk : ¬ ((k : Int) < (i : Int)) := by omega
          obtain rfl : k = i := by omega
          have HTW : Hid _ := T1.out.below HBK.out
          have HNM : Hid (num M = UN) := by unfold Hid; rw [HZ.out.2]; exact HGU.out.2
          have hhe : (at1 M ask).isSome = HE := by rw [HZ.out.1]; exact HHE.out
          cases ht : at1 M ask with
          | none =>
            rw [ht] at hhe
            obtain rfl : false = HE := hhe
            have HGT2 : Hid (got (at1 M ask) = .tuple #[.int .i64 0, .bool false]) := by unfold Hid; rw [ht]; rfl
            clear ht
            go_wp2_with (first
              | (go_at_call 19; refine (get_t gt h1 ask M _ HTW.out).mono ?_; rintro e u6 ⟨rfl, t6, b6⟩; rw [HGT2.out]; have T6 : Hid _ := t6; have B6 : Hid (Below w.heap.size w u6) := (B1.out.trans (HBK.out.mono B1.out.size)).trans (b6.mono (Nat.le_trans B1.out.size HBK.out.size)); clear t6 b6)
              | (go_at_call 14; refine (len_t gt h1 M _ T6.out).mono ?_; rintro e u ⟨rfl, rfl⟩; rw [HNM.out]))
            go_ret
            exact ⟨rfl, B6.out⟩
          | some xv =>
            rw [ht] at hhe
            obtain rfl : true = HE := hhe
            have HGT2 : Hid (got (at1 M ask) = .tuple #[.int .i64 xv, .bool true]) := by unfold Hid; rw [ht]; rfl
            clear ht
            go_wp2_with (first
              | (go_at_call 19; refine (get_t gt h1 ask M _ HTW.out).mono ?_; rintro e u6 ⟨rfl, t6, b6⟩; rw [HGT2.out]; have T6 : Hid _ := t6; have B6 : Hid (Below w.heap.size w u6) := (B1.out.trans (HBK.out.mono B1.out.size)).trans (b6.mono (Nat.le_trans B1.out.size HBK.out.size)); clear t6 b6)
              | (go_at_call 14; refine (len_t gt h1 M _ T6.out).mono ?_; rintro e u ⟨rfl, rfl⟩; rw [HNM.out]))
            go_ret
            exact ⟨rfl, B6.out⟩
end Go.Proofs.Ytjginocbbnmgaaa
