/-
  SEAT Ytkcpfcnpniblcab: WordsDigits: the walk.
-/
import Derived.Test.YtkcpfcnpniblcabHw
namespace Go.Proofs.Ytkcpfcnpniblcab.wordsDigits
open Go.RowKit
set_option linter.unusedVariables false

/-- All that is known of the bytes and of the text. -/
structure Fx (z y F : List Int) (s : ByteArray) (l N : Nat) (C : Int) : Prop where
  nz : z.length = l
  rz : ∀ x ∈ z, 0 ≤ x ∧ x ≤ 255
  ny : y.length = l
  ry : ∀ x ∈ y, 0 ≤ x ∧ x ≤ 255
  m : z.map (fun z => bits .xor .u8 z 90) = y
  nF : F.length = N
  rF : ∀ x ∈ F, 0 ≤ x ∧ x ≤ 255
  c20 : ∀ w : World, Calls Try.prog 20 #[.string s] w fun e w' => ∃ ar cr, e = .returned (.tuple #[.slice ar N cr, .int .i64 C]) ∧ w'.ownsRow w.heap.size 5 1 (.slice ar N cr) N (F.map (Value.int .u8)) ∧ Below w.heap.size w w'
  c19 : ∀ w : World, Calls Try.prog 19 #[.string s] w fun e w' => ∃ ar cr, e = .returned (.tuple #[.slice ar N cr, .int .i64 C]) ∧ w'.ownsRow w.heap.size 5 1 (.slice ar N cr) N (F.map (Value.int .u8)) ∧ Below w.heap.size w w'

theorem s1 : strOfNums [0, 171] = ⟨#[0, 171]⟩ := by decide +kernel

set_option maxHeartbeats 2000000 in
set_option maxRecDepth 100000 in
theorem walkC (C : Int) (hC : C = 0 ∨ C = 12) (a0 : Option Addr) (len0 cap0 : Nat) (z0 : List Int) (a1 : ByteArray) (y0 F : List Int) (N : Nat) (w : World) (w0 : Reads w a0 len0 z0) (s0 : len0 ≤ 140737488351232) (hN : N ≤ 140737488351232) (hfx : Fx z0 y0 F a1 len0 N C) (hback : C = 0 → strOfNums (hexL F) = a1) :
    Calls Try.prog 5 #[.slice a0 len0 cap0, .string a1] w fun e w' => e = .returned (.bool true) ∧ Below w.heap.size w w' := by
  have HF : Hid (Fx z0 y0 F a1 len0 N C) := hfx
  have HW : Hid (Reads w a0 len0 z0) := w0
  obtain ⟨X, hX⟩ : ∃ X, strOfNums (hexL z0) = X := ⟨_, rfl⟩
  obtain ⟨Y, hY⟩ : ∃ Y, strOfNums (hexL y0) = Y := ⟨_, rfl⟩
  have HX : Hid (strOfNums (hexL z0) = X) := hX
  have HY : Hid (strOfNums (hexL y0) = Y) := hY
  have HBK : Hid (∀ u : World, Calls Try.prog 20 #[.string X] u fun e w' => ∃ g c, e = .returned (.tuple #[.slice (some ⟨g, 0, none⟩) len0 c, .int .i64 0]) ∧ w'.ownsRow u.heap.size 5 1 (.slice (some ⟨g, 0, none⟩) len0 c) len0 (z0.map (Value.int .u8)) ∧ Below u.heap.size u w') := fun u => by
    rw [← hX]
    exact unhex_back z0 len0 hfx.nz hfx.rz s0 u
  have HH : Hid (C = 0 → strOfNums (hexL F) = a1) := hback
  have q0 : Hid True := trivial
  have q1 : Hid True := trivial
  clear hfx w0 hX hY hback
  rcases hC with rfl | rfl
  all_goals
    go_enter Try.func5, Try.ntmps5
    go_wp2_with (first
      | (go_at_call 12; have h9 := q0; clear h9; refine (marked_any _ _ _ z0 _ ?_ ?_).mono ?_; (with_reducible exact HW.out); omega; rintro e u1 ⟨gx, cx, rfl, o1, b1⟩; rw [← HF.out.nz] at o1; have t1 := So.start o1 b1; have r1 := t1.rx HF.out.nz HF.out.rz; clear q0 o1 b1)
      | (go_at_call 17; have h9 := r1; clear h9; refine (hex_any _ _ _ z0 _ ?_ ?_).mono ?_; omega; (with_reducible exact r1); rintro e u2 ⟨rfl, b2⟩; rw [HX.out]; have t2 := t1.below b2; have r2 := HW.out.below t2.bel; clear t1 r1 b2)
      | (go_at_call 18; have h9 := r2; clear h9; refine (rhex_any _ _ _ z0 _ ?_ ?_).mono ?_; omega; (with_reducible exact r2); rintro e u3 ⟨rfl, b3⟩; rw [HX.out]; have t3 := t2.below b3; have r3 := HW.out.below t3.bel; clear t2 r2 b3)
      | (go_at_call 14; have h9 := r3; clear h9; refine (kept_any w.heap.size gx _ cx len0 _ a0 z0 _ ?_ ?_ ?_).mono ?_; omega; (with_reducible exact r3); (with_reducible exact t3.kx HF.out.nz); rintro e u4 ⟨rfl, k4, h4⟩; have t4 := t3.drewN k4; rw [← h4] at t4; clear h4 t3 r3)
      | (go_at_call 19; have h9 := t4; clear h9; refine (HF.out.c19 _).mono ?_; rintro e u5 ⟨aw, cw, rfl, o5, b5⟩; have t5 := t4.add b5 HF.out.nF o5; clear t4 o5 b5)
      | (go_at_call 20; have h9 := t5; clear h9; refine (HF.out.c20 _).mono ?_; rintro e u6 ⟨al, cl, rfl, o6, b6⟩; have t6 := t5.add b6 HF.out.nF o6; clear t5 o6 b6)
      | (go_at_call 20; have h9 := t6; clear h9; refine (HF.out.c20 _).mono ?_; rintro e u7 ⟨am, cm, rfl, o7, b7⟩; have t7 := t6.add b7 HF.out.nF o7; clear t6 o7 b7)
      | (go_at_call 20; have h9 := t7; clear h9; refine (unhex_lit _).mono ?_; rintro e u8 ⟨go, co, rfl, o8, b8⟩; have t8 := t7.add b8 rfl o8; clear t7 o8 b8)
      | (go_at_call 20; have h9 := t8; clear h9; refine (HF.out.c20 _).mono ?_; rintro e u9 ⟨an, cn, rfl, o9, b9⟩; have t9 := t8.add b9 HF.out.nF o9; have vw := t9.str (a := aw) (c := cw) (xs := F) (by simp) HF.out.nF HF.out.rF; have vl := t9.str (a := al) (c := cl) (xs := F) (by simp) HF.out.nF HF.out.rF; have vm := t9.str (a := am) (c := cm) (xs := F) (by simp) HF.out.nF HF.out.rF; have vn := t9.str (a := an) (c := cn) (xs := F) (by simp) HF.out.nF HF.out.rF; have vo := t9.str (a := some ⟨go, 0, none⟩) (c := co) (xs := [0, 171]) (n := 2) (by simp) rfl (by decide); rw [wordsDigits.s1] at vo; have r9 := t9.rx HF.out.nz HF.out.rz; clear t8 o9 b9)
      | (go_at_call 9; refine (no_any _ _).mono ?_; rintro e u ⟨rfl, rfl⟩)
      | (go_at_call 17; have h9 := r9; clear h9; refine (hex_any _ _ _ z0 _ ?_ ?_).mono ?_; omega; (with_reducible exact r9); rintro e uA ⟨rfl, bA⟩; rw [HX.out]; have tA := t9.below bA; clear t9 r9 bA vw vl vm vn vo)
      | (go_at_call 20; have h9 := tA; clear h9; refine (HBK.out _).mono ?_; rintro e uB ⟨gk, ck, rfl, oB, bB⟩; have tB := tA.add bB HF.out.nz oB; have vk := tB.str (a := some ⟨gk, 0, none⟩) (c := ck) (xs := z0) (by simp) HF.out.nz HF.out.rz; have v0 := conv _ _ cap0 _ _ (HW.out.below tB.bel); have rB := tB.row (a := al) (c := cl) (xs := F) (by simp) HF.out.nF HF.out.rF; have tX := tB; clear tA oB bB)
      | (go_at_call 17; have h9 := rB; clear h9; refine (hex_any _ _ _ F _ ?_ ?_).mono ?_; omega; (with_reducible exact rB); rintro e uC ⟨rfl, bC⟩; rw [HH.out (by trivial)]; have tC := tB.below bC; clear tX; have tX := tC; clear tB rB bC vk v0)
      | (go_at_call 21; have h9 := tX; clear h9; refine (changed_any w.heap.size gx len0 (z0.length + 3) cx z0 [161, 178, 195] _ ?_ ?_ ?_ ?_).mono ?_; omega; exact HF.out.nz; exact HF.out.rz; (with_reducible exact tX.ox); rintro e uD ⟨rfl, oD, gD⟩; rw [HF.out.m] at oD; have tD := tX.setx gD (HF.out.ny.trans HF.out.nz.symm) oD; have rD := tD.rx HF.out.ny HF.out.ry; clear tX oD gD; try clear tB rB vk v0)
      | (go_at_call 17; have h9 := rD; clear h9; refine (hex_any _ _ _ y0 _ ?_ ?_).mono ?_; omega; (with_reducible exact rD); rintro e uE ⟨rfl, bE⟩; rw [HY.out]; have tE := tD.below bE; have rE := (tE.rx HF.out.ny HF.out.ry).below ((Below.refl uE.heap.size uE).alloc (Nat.le_refl _) (.cells #[] 5)); clear tD rD bE)
      | (at_builtin; have h9 := rE; clear h9; refine wpList_append_reads rfl (.tmp 132) (.tmp 133) rfl uE.heap.size _ _ [] rfl (made0 uE) _ _ _ y0 rfl rE (by omega) (by simp) ?_; intro vF wF hownF hgrowF; simp only [Nat.zero_add, List.nil_append] at hownF; obtain ⟨aF, cF, hvF, rF⟩ := own_any hownF HF.out.ry; subst hvF; have bF : Below uE.heap.size uE wF := (((Below.refl _ _).alloc (Nat.le_refl _) _).grown hgrowF (by simp) (fun k hk => ((made0 uE).lt k hk).1)); have tF := tE.below bF; clear rE hownF hgrowF bF tE)
      | (go_at_call 18; have h9 := rF; clear h9; refine (rhex_any _ _ _ y0 _ ?_ ?_).mono ?_; omega; (with_reducible exact rF); rintro e uG ⟨rfl, bG⟩; rw [HY.out]; have tG := tF.below bG; have cun := apart_any (uG.alloc (.cells #[.slice al N cl, .slice am N cm, .slice (some ⟨go, 0, none⟩) 2 co, .slice an N cn, .slice (some ⟨gk, 0, none⟩) len0 ck] 22)) u1.heap.size uG.heap.size 5 5 _ _ _ (rows_at tG.lv [4, 3, 2, 1, 0] (by decide) (by simp) [(.slice al N cl, F), (.slice am N cm, F), (.slice (some ⟨go, 0, none⟩) 2 co, [0, 171]), (.slice an N cn, F), (.slice (some ⟨gk, 0, none⟩) len0 ck, z0)] rfl (by have e1 := HF.out.nF; have e2 := HF.out.nz; simp only [List.mem_cons, List.not_mem_nil, or_false]; rintro p (rfl | rfl | rfl | rfl | rfl) <;> simp only [e1, e2, List.length_cons, List.length_nil] <;> omega) 5 rfl _ rfl) (by omega) (by have := tG.hB; simp; omega); have HUN : Hid _ := cun; clear cun tF rF bG)
      | (go_at_call 22; have h9 := HUN; clear h9; refine Calls.mono HUN.out ?_; rintro e uH ⟨rfl, bH⟩; have tH := tG.bel.trans ((((Below.refl uG.heap.size uG).alloc (Nat.le_refl _) _).mono tG.bel.size).trans (bH.mono tG.base)); clear HUN tG bH))
    go_ret
    exact ⟨rfl, tH⟩

theorem walkW (a0 : Option Addr) (len0 cap0 : Nat) (z0 : List Int) (a1 : ByteArray) (w : World) (w0 : Reads w a0 len0 z0) (s0 : len0 ≤ 140737488351232) (h1 : a1.size ≤ 140737488351232) :
    Calls Try.prog 5 #[.slice a0 len0 cap0, .string a1] w fun e w' => e = .returned (.bool true) ∧ Below w.heap.size w w' := by
  obtain ⟨N, C, F, hN, nF, rF, hC, c20, c19⟩ := unhex_all a1 h1
  have ry : ∀ x ∈ z0.map (fun z => bits .xor .u8 z 90), 0 ≤ x ∧ x ≤ 255 := by
    intro x hx
    obtain ⟨y, hy, rfl⟩ := List.mem_map.1 hx
    exact xor_range y (w0.2.1 y hy).1 (w0.2.1 y hy).2
  refine walkC C (by rcases hC with h | h; exact Or.inl h.1; exact Or.inr h) a0 len0 cap0 z0 a1 _ F N w w0 s0 hN ⟨w0.1, w0.2.1, by simp [w0.1], ry, rfl, nF, rF, c20, c19⟩ ?_
  rcases hC with h | h
  · exact fun _ => h.2
  · intro h'
    omega
end Go.Proofs.Ytkcpfcnpniblcab.wordsDigits
