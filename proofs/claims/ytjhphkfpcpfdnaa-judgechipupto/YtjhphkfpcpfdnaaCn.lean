/-
  SEAT Ytjhphkfpcpfdnaa: Mark.
-/
import Derived.Test.YtjhphkfpcpfdnaaCl
namespace Go.Proofs.Ytjhphkfpcpfdnaa
open Go.RowKit Go.Conc
set_option linter.unusedVariables false

theorem one_reads (u : World) : Reads (u.alloc (.cells #[.int .u8 0] 5)) (some ⟨u.heap.size, 0, none⟩) 1 [0] := by
  refine ⟨rfl, by simp, by simp, fun x hx i hi => ?_⟩
  cases hx
  have : i = 0 := by omega
  subst this
  simp [Addr.add]

/-- Does a Mark that such a fault meets mark? -/
def markB (m : List Int) (f : Int) : Bool := bits .and .u8 (bits .or .u8 0 (mk m f 0)) 1 == 1
def markC (C : Ch) (pb : Int) : Int × Ch :=
  if hasB C.B pb = false then (41, C) else
    match C.bl[pb.toNat]? with
    | none => (41, C)
    | some b => (endE (takeF C.cnt C.q).k, { C with q := takeR C.cnt C.q, cnt := C.cnt + 1, dark := C.dark || (takeF C.cnt C.q).k == 2, bl := C.bl.set pb.toNat { b with m := b.m || markB (takeF C.cnt C.q).m (takeF C.cnt C.q).f } })

theorem mark_a (w : World) (p : Nat) (F : Nat → Prop) (C : Ch) (x : Bx) (bs : List Bc) (fe : List Fe) (h : CAt w p F C x bs fe) (pb : Int) (hP : hasB C.B pb = false) :
    Calls Try.prog 38 #[.pointer (some ⟨p, 0, none⟩), .int .i64 pb] w fun e w' => e = .returned (.int .i64 41) ∧ Below w.heap.size w w' := by
  have HC := hide h
  clear h
  go_enter Try.func38, Try.ntmps38
  go_wp2_with (first | (go_at_call 61; refine (hasBlock_any HC.out.box pb C.B HC.out.B).mono ?_; rintro e u1 ⟨rfl, h1⟩; rw [h1, hP]; clear h1))
  go_ret
  exact ⟨rfl, Below.refl _ _⟩

set_option maxRecDepth 100000 in
set_option maxHeartbeats 1000000 in
theorem mark_ok (w : World) (p : Nat) (F : Nat → Prop) (C : Ch) (x : Bx) (bs : List Bc) (fe : List Fe) (h : CAt w p F C x bs fe) (i : Nat) (b : Bc) (hi : bs[i]? = some b) (hBl : C.bl.length = C.B) (hcn : C.cnt ≤ 4000000000000) (mb : Bool) (hmb : markB (takeF C.cnt C.q).m (takeF C.cnt C.q).f = mb) :
    Calls Try.prog 38 #[.pointer (some ⟨p, 0, none⟩), .int .i64 (i : Int)] w fun e w' => e = .returned (.int .i64 (endE (takeF C.cnt C.q).k)) ∧ ChipAt w' p (Fx F w w') { C with q := takeR C.cnt C.q, cnt := C.cnt + 1, dark := C.dark || (takeF C.cnt C.q).k == 2, bl := C.bl.set i { b.v with m := b.v.m || mb } } ∧ Only F w w' := by
  have hil : i < bs.length := (List.getElem?_eq_some_iff.1 hi).1
  have hP : hasB C.B (i : Int) = true := by
    have e1 : bs.length = C.B := by have h1 := h.len; rw [hBl] at h1; exact h1
    exact decide_eq_true (by omega)
  have i1 : (i : Int) < (x.nb : Int) := by rw [h.nb]; omega
  have HFW : Hid (∀ k, F k → k < w.heap.size) := h.fin
  have HC := hide h
  have HMB := hide hmb
  clear h hmb
  go_enter Try.func38, Try.ntmps38
  go_upto_region 4 with (first | (go_at_call 61; refine (hasBlock_any HC.out.box (i : Int) C.B HC.out.B).mono ?_; rintro e u1 ⟨rfl, h1⟩; rw [h1, hP]; clear h1) | (go_at_call 57; refine (take_any _ p F C x bs fe HC.out hcn).mono ?_; rintro e u2 ⟨v, x2, rfl, vk, k1, k2, k3⟩; obtain ⟨ma, ml, mc, hve, mok, mle⟩ := vk.ex; have hvf := vk.fill; obtain ⟨fa, hfa⟩ : ∃ z, (takeF (C.cnt : Int) C.q).a = z := ⟨_, rfl⟩; obtain ⟨fk, hfk⟩ : ∃ z, (takeF (C.cnt : Int) C.q).k = z := ⟨_, rfl⟩; obtain ⟨ff, hff⟩ : ∃ z, (takeF (C.cnt : Int) C.q).f = z := ⟨_, rfl⟩; obtain ⟨fm, hfm⟩ : ∃ z, (takeF (C.cnt : Int) C.q).m = z := ⟨_, rfl⟩; rw [hfa, hfk, hff] at hve; rw [hfm] at mok; rw [hff] at hvf; subst hve; have HC2 := hide k1; have O2 := hide k3; have HG2 := hide k2; have HM2 := hide mok; have HE := hide (And.intro hfa (And.intro hfk (And.intro hff hfm))); have HFF := hide hvf; clear vk mok mle hvf k1 k2 k3 hfa hfk hff hfm))
  have HMB2 : Hid (markB fm ff = mb) := by obtain ⟨_, _, e3, e4⟩ := HE.out; have h9 := HMB.out; rw [e3, e4] at h9; exact h9
  have HW2 := hide O2.out.size
  obtain ⟨u3, hu3⟩ : ∃ u, u = u2.alloc (.cells #[.int .i64 fa, .int .i64 fk, .slice ma ml mc, .int .u8 ff] 67) := ⟨_, rfl⟩
  have HB3 : Hid (Below u2.heap.size u2 u3) := by rw [hu3]; exact below_alloc _ _
  have HV3 : Hid (u3.heap[u2.heap.size]? = some (.cells #[.int .i64 fa, .int .i64 fk, .slice ma ml mc, .int .u8 ff] 67 (0, 0))) := by rw [hu3]; exact alloc_new _ _
  rw [← hu3]
  clear hu3
  obtain ⟨fb, hfb⟩ : ∃ g, g = u2.heap.size := ⟨_, rfl⟩
  rw [← hfb] at HV3 HW2 HB3 ⊢
  have HFB2 := hide hfb
  clear hfb
  have HC3 := hide (HC2.out.below (by rw [← HFB2.out]; exact HB3.out))
  have HM3 := hide (HM2.out.keep (KeepT.of (fun k hk => HB3.out.block k (by rw [HFB2.out]; exact HC2.out.fin k hk)) (fun _ => False)) (fun h => h) (fun _ h => h))
  have HV4 := hide ((alloc_old u3 (.cells #[.int .u8 0] 5) (lt_of_block HV3.out)).trans HV3.out)
  obtain ⟨q0, q1, q2, q3⟩ := cells4 HV4.out
  have HZ := hide (one_reads u3)
  have HOW3 : Hid (Only (fun k => k = p ∨ k = x.c) w u3) := O2.out.trans (Only.ofB (F := fun _ => False) (by rw [← HFB2.out]; exact HB3.out)) (fun _ _ h => h.elim)
  go_upto_if 21 with (first | (go_at_call 63; refine (rise_any (some ⟨u3.heap.size, 0, none⟩) 1 1 [0] ma ml mc fm ff _ (by omega) HM3.out.le HZ.out (HM3.out.rd.below (below_alloc _ _))).mono ?_; rintro e u4 ⟨gr, cr, rfl, o4, b4⟩; have z0 := o4.cell 0 (by omega); rw [show (riseL [0] fm ff 1).getD 0 0 = bits .or .u8 0 (mk fm ff 0) from rfl] at z0; have HB4 := hide (below_trans (below_alloc u3 (.cells #[.int .u8 0] 5)) b4); have HV5 := hide ((b4.block _ (lt_of_block HV4.out)).trans HV4.out); clear b4 o4 q0 q1 q2 q3))
  have HC5 := hide (HC3.out.below HB4.out)
  obtain ⟨q0, q1, q2, q3⟩ := cells4 HV5.out
  have c3 := HC5.out.box.c3
  obtain ⟨m0, m1, m2, m3⟩ := HC5.out.blk hi
  have fzb := frozen_of_row u4 x2.gb (i * 4) _ 74 HC5.out.row
  have i2 : (i : Int) < (x2.nb : Int) := by rw [HC5.out.nb]; omega
  have hcond : (bits .and .u8 (bits .or .u8 0 (mk fm ff 0)) 1 == 1) = mb := HMB2.out
  have HOW4 : Hid (Only F w u4) := (HOW3.out.mono (fun j _ e => by rcases e with e | e <;> rw [e]; exact HC.out.fp; exact HC.out.q.fc)).trans (Only.ofB (F := fun _ => False) HB4.out) (fun _ _ h => h.elim)
  have hfb : w.heap.size ≤ fb := HW2.out
  cases mb with
  | false =>
    clear m0 m1 m2 m3 fzb
    go_wp2_with (first | (go_at_call 60; refine (end_c _ p _ _ _ _ fe HC5.out fa fk ma ml mc ff).mono ?_; rintro e v9 ⟨rfl, ⟨x9, k9⟩, o9⟩; have HK9 := hide k9; have HO9 := hide o9; clear k9 o9))
    go_ret
    have hOW9 : Only F w v9 := HOW4.out.trans HO9.out (fun j _ e => by rw [e]; exact HC.out.fp)
    obtain ⟨ea, ek, ef, em⟩ := HE.out
    rw [ek]
    have h10 := HK9.out.keep (w' := v9) (G := Fx F w v9) (fun _ _ => rfl) (fun j hj => Or.inl hj) (fun j hj => Or.elim hj (fun h1 => Nat.lt_of_lt_of_le (HFW.out j h1) hOW9.size) (fun h1 => h1.2))
    have e5 : C.bl.set i { b.v with m := b.v.m || false } = C.bl := by
      rw [Bool.or_false]
      have e6 : C.bl[i]? = some b.v := by rw [← HC.out.bl, List.getElem?_map, hi]; rfl
      obtain ⟨hlt, e7⟩ := List.getElem?_eq_some_iff.1 e6
      have e8 : ({ b.v with m := b.v.m } : Bl) = b.v := rfl
      rw [e8, ← e7]
      exact List.set_getElem_self hlt
    rw [e5]
    exact ⟨rfl, ⟨x9, _, fe, h10⟩, hOW9⟩
  | true =>
    go_upto_region 6 with fail
    have HC6 := hide (HC5.out.setB hi 0 (by omega) (.bool true) { b with m := true } rfl rfl rfl)
    have HO6 := hide (Only.setCell (· = x2.gb) u4 x2.gb (i * 4) (.bool true) rfl)
    rw [Nat.add_zero] at HC6
    generalize hu6 : World.setCell u4 ⟨x2.gb, i * 4, none⟩ _ = u6 at HC6 HO6 ⊢
    clear hu6 m0 m1 m2 m3 fzb
    have hgb : x2.gb < w.heap.size := by rw [HG2.out]; exact HFW.out _ HC.out.fb
    have w0 := HO6.out.cell q0 (by omega)
    have w1 := HO6.out.cell q1 (by omega)
    have w2 := HO6.out.cell q2 (by omega)
    have w3 := HO6.out.cell q3 (by omega)
    clear q0 q1 q2 q3
    go_wp2_with (first | (go_at_call 60; refine (end_c _ p _ _ _ _ fe HC6.out fa fk ma ml mc ff).mono ?_; rintro e v9 ⟨rfl, ⟨x9, k9⟩, o9⟩; have HK9 := hide k9; have HO9 := hide o9; clear k9 o9))
    go_ret
    have hOW9 : Only F w v9 := (HOW4.out.trans HO6.out (fun j _ e => by rw [e, HG2.out]; exact HC.out.fb)).trans HO9.out (fun j _ e => by rw [e]; exact HC.out.fp)
    obtain ⟨ea, ek, ef, em⟩ := HE.out
    rw [ek]
    have h10 := HK9.out.keep (w' := v9) (G := Fx F w v9) (fun _ _ => rfl) (fun j hj => Or.inl hj) (fun j hj => Or.elim hj (fun h1 => Nat.lt_of_lt_of_le (HFW.out j h1) hOW9.size) (fun h1 => h1.2))
    rw [Bool.or_true]
    exact ⟨rfl, ⟨x9, _, fe, h10⟩, hOW9⟩

theorem mark_any (w : World) (p : Nat) (F : Nat → Prop) (C : Ch) (h : ChipAt w p F C) (hok : C.Ok) (hcn : C.cnt ≤ 4000000000000) (pb : Int) :
    Calls Try.prog 38 #[.pointer (some ⟨p, 0, none⟩), .int .i64 pb] w fun e w' => e = .returned (.int .i64 (markC C pb).1) ∧ ChipAt w' p (Fx F w w') (markC C pb).2 ∧ Only F w w' := by
  obtain ⟨x, bs, fe, hc⟩ := h
  have h : ChipAt w p F C := ⟨x, bs, fe, hc⟩
  unfold markC
  cases hp : hasB C.B pb with
  | false =>
    refine (mark_a w p F C x bs fe hc pb hp).mono ?_
    rintro e w' ⟨rfl, hb⟩
    exact ⟨rfl, h.fx hb, Only.ofB hb⟩
  | true =>
    obtain ⟨i, rfl, hi⟩ : ∃ i : Nat, pb = i ∧ i < C.B := ⟨pb.toNat, by have := of_decide_eq_true hp; omega, by have := of_decide_eq_true hp; omega⟩
    have hbl : i < bs.length := by rw [hc.len, hok.bl]; exact hi
    have hib : bs[i]? = some bs[i] := List.getElem?_eq_getElem hbl
    obtain ⟨b, hb⟩ : ∃ b, bs[i] = b := ⟨_, rfl⟩
    rw [hb] at hib
    have e1 : C.bl[i]? = some b.v := by rw [← hc.bl, List.getElem?_map, hib]; rfl
    simp only [Int.toNat_natCast, e1, Bool.true_eq_false, if_false]
    exact mark_ok w p F C x bs fe hc i b hib hok.bl hcn _ rfl

def MarkC (C : Ch) (pb : Int) : Int × Ch := if C.dark then (45, C) else noteC 3 pb 0 (markC C pb)
theorem markC_tr (C : Ch) (pb : Int) : (markC C pb).2.tr = C.tr := by
  unfold markC
  split
  · rfl
  · split <;> rfl
/-- A command behind its note. -/
theorem noted {w u v : World} {p : Nat} {F : Nat → Prop} {C : Ch} (hF : ∀ k, F k → k < w.heap.size) (h1 : Only F w u) (h2 : Only (Fx F w u) u v) (hc : ChipAt v p (Fx (Fx F w u) u v) C) : ChipAt v p (Fx F w v) C ∧ Only F w v :=
  ⟨hc.grow (Below.refl _ _) (fun k hk => by
      rcases hk with (e | e) | e
      · exact Or.inl e
      · exact Or.inr ⟨e.1, Nat.lt_of_lt_of_le e.2 h2.size⟩
      · exact Or.inr ⟨Nat.le_trans h1.size e.1, e.2⟩) (fun k hk => Or.elim hk (fun e => Nat.lt_of_lt_of_le (hF k e) (Nat.le_trans h1.size h2.size)) (fun e => e.2)),
   h1.trans h2 (fun j hj e => Or.elim e (fun e => e) (fun e => absurd e.1 (by omega)))⟩

set_option maxRecDepth 100000 in
theorem Mark_any (w : World) (p : Nat) (F : Nat → Prop) (C : Ch) (h : ChipAt w p F C) (hok : C.Ok) (htr : C.tr.length ≤ 3000000000000) (pb : Int) :
    Calls Try.prog 14 #[.pointer (some ⟨p, 0, none⟩), .int .i64 pb] w fun e w' => e = .returned (.int .i64 (MarkC C pb).1) ∧ ChipAt w' p (Fx F w w') (MarkC C pb).2 ∧ Only F w w' := by
  obtain ⟨x, bs, fe, hc⟩ := h
  have h : ChipAt w p F C := ⟨x, bs, fe, hc⟩
  have c11 := hc.box.c11
  rw [hc.dark] at c11
  have hcn := hok.cnt
  unfold MarkC
  cases hd : C.dark with
  | true =>
    rw [hd] at c11
    have HH := hide h
    clear h hc
    go_enter Try.func14, Try.ntmps14
    go_wp2
    go_ret
    exact ⟨rfl, ChipAt.fx HH.out (Below.refl _ _), Only.refl _ _⟩
  | false =>
    rw [hd] at c11
    simp only [Bool.false_eq_true, if_false]
    have HFW := hide hc.fin
    have HH := hide h
    clear h hc
    go_enter Try.func14, Try.ntmps14
    go_wp2_with (first
      | (go_at_call 38; refine (mark_any _ p F C HH.out hok (by omega) pb).mono ?_; rintro e u1 ⟨rfl, k1, k2⟩; have HC1 := hide k1; have HO1 := hide k2; clear k1 k2 c11)
      | (go_at_call 35; obtain ⟨x3, bs3, fe3, hc3⟩ := HC1.out; refine (note_any _ p _ _ x3 bs3 fe3 hc3 (by rw [markC_tr]; omega) 3 pb 0 _).mono ?_; rintro e u2 ⟨rfl, k1, k2⟩; have HC2 := hide k1; have HO2 := hide k2; clear k1 k2 hc3))
    go_ret
    exact ⟨rfl, noted HFW.out HO1.out HO2.out HC2.out⟩
end Go.Proofs.Ytjhphkfpcpfdnaa
