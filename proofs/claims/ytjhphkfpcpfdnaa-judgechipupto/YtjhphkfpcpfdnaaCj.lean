/-
  SEAT Ytjhphkfpcpfdnaa: Program, pure and in memory.
-/
import Derived.Test.YtjhphkfpcpfdnaaCi
namespace Go.Proofs.Ytjhphkfpcpfdnaa
open Go.RowKit Go.Conc
set_option linter.unusedVariables false

/-- What stands of every chip. -/
structure Ch.Ok (C : Ch) : Prop where
  fits : Fits C.B C.P C.S = true
  bl : C.bl.length = C.B
  ps : ∀ b ∈ C.bl, b.ps.length = C.P
  cnt : C.cnt ≤ C.tr.length
  fl : ∀ b p, ∀ z ∈ C.fl b p, z < 8 * pgB C.S
theorem Ch.Ok.s {C : Ch} (h : C.Ok) : 1 ≤ C.S ∧ C.S ≤ 8 := by have := of_decide_eq_true h.fits; omega
theorem Ch.Ok.p {C : Ch} (h : C.Ok) : 4 ≤ C.P ∧ C.P ≤ 256 := by have := of_decide_eq_true h.fits; omega
theorem Ch.Ok.b {C : Ch} (h : C.Ok) : 8 ≤ C.B ∧ C.B ≤ 4096 := by have := of_decide_eq_true h.fits; omega

def progN (C : Ch) (pb pp : Int) (b : Bl) (q : Pg) (want : List Int) : Ch :=
  { C with q := takeR C.cnt C.q, cnt := C.cnt + 1, dark := C.dark || (takeF C.cnt C.q).k == 2, bl := C.bl.set pb.toNat { b with nx := pp + 1, ps := b.ps.set pp.toNat ⟨fallL q.bits want (takeF C.cnt C.q).m (takeF C.cnt C.q).f (pgB C.S), (takeF C.cnt C.q).k == 0⟩ } }
/-- A page is programmed, if it may be: the answer, and the chip. -/
def progC (C : Ch) (pb pp : Int) (want : List Int) : Int × Ch :=
  if hasP C.B C.P pb pp = false then (41, C) else
    match C.bl[pb.toNat]? with
    | none => (41, C)
    | some b =>
      if b.m || !b.r || decide (pp < b.nx) then (43, C) else
        match b.ps[pp.toNat]? with
        | none => (41, C)
        | some q => (endE (takeF C.cnt C.q).k, progN C pb pp b q want)
/-- A command is noted. -/
def noteC (k pb pp : Int) (r : Int × Ch) : Int × Ch := (r.1, { r.2 with tr := r.2.tr ++ [⟨k, pb, pp, r.1⟩] })
def ProgramC (C : Ch) (pb pp : Int) (n1 n2 : Nat) (want : List Int) : Int × Ch :=
  if C.dark then (45, C) else if n1 ≠ 256 * C.S ∨ n2 ≠ 54 + 3 * C.S then (42, C) else noteC 1 pb pp (progC C pb pp want)

theorem ChipAt.grow {w w' : World} {p : Nat} {F G : Nat → Prop} {C : Ch} (h : ChipAt w p F C) (hb : Below w.heap.size w w') (hF : ∀ k, F k → G k) (hG : ∀ k, G k → k < w'.heap.size) : ChipAt w' p G C := by
  obtain ⟨x, bs, fe, h1⟩ := h
  exact ⟨x, bs, fe, h1.keep (fun k hk => hb.block k (h1.fin k hk)) hF hG⟩
theorem ChipAt.fx {w w' : World} {p : Nat} {F : Nat → Prop} {C : Ch} (h : ChipAt w p F C) (hb : Below w.heap.size w w') : ChipAt w' p (Fx F w w') C :=
  h.grow hb (fun _ h => Or.inl h) (fun k hk => Or.elim hk (fun h1 => Nat.lt_of_lt_of_le (h.fin k h1) hb.size) (fun h1 => h1.2))

theorem hasP_nat {B P : Nat} {pb pp : Int} (h : hasP B P pb pp = true) : ∃ i k : Nat, pb = i ∧ pp = k ∧ i < B ∧ k < P := by
  unfold hasP hasB at h
  simp only [Bool.and_eq_true, decide_eq_true_eq] at h
  exact ⟨pb.toNat, pp.toNat, by omega, by omega, by omega, by omega⟩

theorem program_any (w : World) (p : Nat) (F : Nat → Prop) (C : Ch) (h : ChipAt w p F C) (hok : C.Ok) (hcn : C.cnt ≤ 4000000000000) (pb pp : Int) (da sa : Option Addr) (n1 dc n2 sc : Nat) (zd zp : List Int) (hn1 : n1 = 256 * C.S) (hn2 : n2 = 54 + 3 * C.S) (hD : Reads w da n1 zd) (hZ : Reads w sa n2 zp) (hdF : ∀ y, da = some y → ¬ F y.block) (hzF : ∀ y, sa = some y → ¬ F y.block) :
    Calls Try.prog 36 #[.pointer (some ⟨p, 0, none⟩), .agg #[.int .i64 pb, .int .i64 pp], .agg #[.slice da n1 dc, .slice sa n2 sc]] w fun e w' => e = .returned (.int .i64 (progC C pb pp (zd ++ zp)).1) ∧ ChipAt w' p (Fx F w w') (progC C pb pp (zd ++ zp)).2 ∧ Only F w w' := by
  obtain ⟨x, bs, fe, hc⟩ := h
  have h : ChipAt w p F C := ⟨x, bs, fe, hc⟩
  unfold progC
  cases hp : hasP C.B C.P pb pp with
  | false =>
    refine (prog_a w p F C x bs fe hc pb pp hp da sa n1 dc n2 sc).mono ?_
    rintro e w' ⟨rfl, hb⟩
    exact ⟨rfl, h.fx hb, Only.ofB hb⟩
  | true =>
    obtain ⟨i, k, rfl, rfl, hi, hk⟩ := hasP_nat hp
    have hbl : i < bs.length := by rw [hc.len, hok.bl]; exact hi
    have hib : bs[i]? = some bs[i] := List.getElem?_eq_getElem hbl
    obtain ⟨b, hb⟩ : ∃ b, bs[i] = b := ⟨_, rfl⟩
    rw [hb] at hib
    have hkl : k < b.ps.length := by rw [(hc.bok b (List.mem_of_getElem? hib)).np]; exact hk
    have hkq : b.ps[k]? = some b.ps[k] := List.getElem?_eq_getElem hkl
    obtain ⟨q, hq⟩ : ∃ q, b.ps[k] = q := ⟨_, rfl⟩
    rw [hq] at hkq
    have e1 : C.bl[i]? = some b.v := by rw [← hc.bl, List.getElem?_map, hib]; rfl
    have e2 : b.v.ps[k]? = some q.v := by show (b.ps.map Pc.v)[k]? = _; rw [List.getElem?_map, hkq]; rfl
    simp only [Int.toNat_natCast, e1, e2, Bool.true_eq_false, if_false]
    have fin43 : ∀ {e : Ending} {w' : World}, (e = .returned (.int .i64 43) ∧ Below w.heap.size w w') → (b.v.m || !b.v.r || decide ((k : Int) < b.v.nx)) = true → e = .returned (.int .i64 (if (b.v.m || !b.v.r || decide ((k : Int) < b.v.nx)) = true then ((43 : Int), C) else (endE (takeF C.cnt C.q).k, progN C i k b.v q.v (zd ++ zp))).1) ∧ ChipAt w' p (Fx F w w') (if (b.v.m || !b.v.r || decide ((k : Int) < b.v.nx)) = true then ((43 : Int), C) else (endE (takeF C.cnt C.q).k, progN C i k b.v q.v (zd ++ zp))).2 ∧ Only F w w' := by
      rintro e w' ⟨rfl, hB⟩ hif
      rw [if_pos hif]
      exact ⟨rfl, h.fx hB, Only.ofB hB⟩
    cases hm : b.m with
    | true => exact (prog_m w p F C x bs fe hc i k b q hib hkq da sa n1 dc n2 sc hok.bl hm).mono fun e w' hr => fin43 hr (by show (b.m || !b.r || _) = true; rw [hm]; rfl)
    | false =>
      cases hr : b.r with
      | false => exact (prog_r w p F C x bs fe hc i k b q hib hkq da sa n1 dc n2 sc hok.bl hm hr).mono fun e w' hr' => fin43 hr' (by show (b.m || !b.r || _) = true; rw [hm, hr]; rfl)
      | true =>
        cases hx : decide ((k : Int) < b.nx) with
        | true => exact (prog_n w p F C x bs fe hc i k b q hib hkq da sa n1 dc n2 sc hok.bl hm hr hx).mono fun e w' hr' => fin43 hr' (by show (b.m || !b.r || decide ((k : Int) < b.nx)) = true; rw [hm, hr, hx]; rfl)
        | false =>
          have hif : (b.v.m || !b.v.r || decide ((k : Int) < b.v.nx)) = false := by show (b.m || !b.r || decide ((k : Int) < b.nx)) = false; rw [hm, hr, hx]; rfl
          rw [hif, if_neg (by decide)]
          refine (prog_ok w p F C x bs fe hc i k b q hib hkq da sa n1 dc n2 sc hok.bl hok.s hok.p.2 hcn hm hr hx zd zp hn1 hn2 hD hZ hdF hzF).mono ?_
          rintro e w' ⟨rfl, h1, h2⟩
          exact ⟨rfl, h1, h2⟩

end Go.Proofs.Ytjhphkfpcpfdnaa
