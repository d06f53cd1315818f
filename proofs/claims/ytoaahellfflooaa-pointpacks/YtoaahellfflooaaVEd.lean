/-
  SEAT Ytoaahellfflooaa.
-/
import Derived.Test.YtoaahellfflooaaVEc
namespace Go.Proofs.Ytoaahellfflooaa
open Go.RowKit
set_option linter.unusedVariables false

/-- Each object's chunks are read. -/
def ChksOn (w : World) (ls : List (Ob × Value)) : Prop := ∀ x ∈ ls, ∃ a c, x.2 = .slice a x.1.ch.length c ∧ ReadsC w a x.1.ch.length x.1.ch ∧ x.1.ch.length ≤ 140737488355000
def Ob.Sz (o : Ob) : Prop := o.nd.N.size ≤ 9223372036854775807 ∧ o.nd.T.size ≤ 9223372036854775807
abbrev ReadsO (w : World) (a : Option Addr) (n : Nat) (ls : List (Ob × Value)) : Prop := ReadsL w a n 13 (flatO ls)
theorem ChksOn.below {w w' : World} {ls : List (Ob × Value)} (h : ChksOn w ls) (hb : Below w.heap.size w w') : ChksOn w' ls := fun x hx => by
  obtain ⟨a, c, h1, h2, h3⟩ := h x hx
  exact ⟨a, c, h1, ReadsL.below h2 hb, h3⟩
theorem ReadsO.len {w : World} {a : Option Addr} {n : Nat} {ls : List (Ob × Value)} (h : ReadsO w a n ls) : ls.length = n := ReadsL.len (f := fun x : Ob × Value => x.1.cells x.2) h ob_len (by decide)
theorem ReadsO.cells {w : World} {a : Option Addr} {n : Nat} {l : List (Ob × Value)} (h : ReadsO w a n l) (hp : 0 < n) :
    ∃ b off, a = some ⟨b, off, none⟩ ∧ b < w.heap.size ∧ ∀ i (hi : i < l.length) j u, (l[i].1.cells l[i].2)[j]? = some u → w.cell? ⟨b, off + (i * 13 + j), none⟩ = some u :=
  ReadsL.pos (f := fun x : Ob × Value => x.1.cells x.2) h ob_len (by decide) hp

def obL : Int → List Ob → Bool
  | _, [] => true
  | a, o :: r => rg o.id (a + 1) 1048575 && (hdOk o && (chsOk o.ch && obL o.id r))
theorem obL_stop {a : Int} {o : Ob} {r : List Ob} (h : rg o.id (a + 1) 1048575 = false ∨ hdOk o = false ∨ chsOk o.ch = false) : obL a (o :: r) = false := by
  rcases h with h | h | h <;> simp [obL, h]
theorem obL_go {a : Int} {o : Ob} {r : List Ob} (h1 : rg o.id (a + 1) 1048575 = true) (h2 : hdOk o = true) (h3 : chsOk o.ch = true) : obL a (o :: r) = obL o.id r := by
  simp [obL, h1, h2, h3]

set_option maxHeartbeats 4000000 in
set_option maxRecDepth 100000 in
theorem objects42 (a0 : Option Addr) (len cap : Nat) (ls : List (Ob × Value)) (w : World) (hr : ReadsO w a0 len ls) (hch : ChksOn w ls) (hsz : ∀ x ∈ ls, x.1.Sz) (hl : len ≤ 140737488355000) : Calls Try.prog 42 #[.slice a0 len cap] w fun e w' => e = .returned (.bool (obL 1 (ls.map Prod.fst))) ∧ Below w.heap.size w w' := by
  have HR := hide hr
  have HLN := hide hr.len
  have HCH := hide hch
  have HSZ := hide hsz
  obtain ⟨R, hR⟩ : ∃ R, obL 1 (ls.map Prod.fst) = R := ⟨_, rfl⟩
  rw [hR]
  have HQ := hide hR
  clear hr hR hch hsz
  go_enter Try.func42, Try.ntmps42
  go_wp2
  go_loopw [3, 8] (fun s3 s8 wr => ∃ (k : Nat) (a : Int), k ≤ len ∧ s3 = .int .i64 a ∧ s8 = .int .i64 k ∧ 1 ≤ a ∧ a ≤ 1048575 ∧ Hid (obL 1 (ls.map Prod.fst) = obL a ((ls.drop k).map Prod.fst)) ∧ Hid (Below w.heap.size w wr))
    (fun _ s8 _ => len - (intOf s8).toNat)
  case atStart => exact ⟨0, 1, Nat.zero_le _, rfl, rfl, by omega, by omega, rfl, Below.refl _ _⟩
  case round =>
    obtain ⟨k, a, hk, rfl, rfl, ha0, ha1, HA, HB⟩ := hrel
    by_cases hlt : k < len
    · have hkl : k < ls.length := by rw [HLN.out]; exact hlt
      obtain ⟨b, off, rfl, hbs, hc⟩ := ReadsO.cells (ReadsL.below HR.out HB.out) (by omega)
      have hd : ls.drop k = ls[k] :: ls.drop (k + 1) := List.drop_eq_getElem_cons hkl
      have hcc := hc k hkl
      obtain ⟨va, vc, hv, hcr, hcl⟩ := HCH.out.below HB.out ls[k] (List.getElem_mem hkl)
      have hsz := HSZ.out ls[k] (List.getElem_mem hkl)
      obtain ⟨⟨⟨id, hd0, ⟨xk, xp, xN, xz, xm, xs, xh, xT⟩, ⟨p1, p2⟩, ch⟩, vv⟩, hX⟩ : ∃ X, ls[k] = X := ⟨_, rfl⟩
      rw [hX] at hcc hd hv hcr hcl hsz
      simp only at hcc hv hcr hcl hsz
      subst hv
      obtain ⟨vn, hvn⟩ : ∃ vn, ch.length = vn := ⟨_, rfl⟩
      rw [hvn] at hcc hcl hcr hd
      have c0 : wr.cell? ⟨b, off + k * 13, none⟩ = some (.int .i64 id) := hcc 0 _ rfl
      have c1 : wr.cell? ⟨b, off + k * 13 + 1, none⟩ = some (.bool hd0) := hcc 1 _ rfl
      have c2 : wr.cell? ⟨b, off + k * 13 + 2, none⟩ = some (.int .i64 xk) := hcc 2 _ rfl
      have c3 : wr.cell? ⟨b, off + k * 13 + 3, none⟩ = some (.int .i64 xp) := hcc 3 _ rfl
      have c4 : wr.cell? ⟨b, off + k * 13 + 4, none⟩ = some (.string xN) := hcc 4 _ rfl
      have c5 : wr.cell? ⟨b, off + k * 13 + 5, none⟩ = some (.int .i64 xz) := hcc 5 _ rfl
      have c6 : wr.cell? ⟨b, off + k * 13 + 6, none⟩ = some (.int .i64 xm) := hcc 6 _ rfl
      have c7 : wr.cell? ⟨b, off + k * 13 + 7, none⟩ = some (.int .u64 xs) := hcc 7 _ rfl
      have c8 : wr.cell? ⟨b, off + k * 13 + 8, none⟩ = some (.int .i64 xh) := hcc 8 _ rfl
      have c9 : wr.cell? ⟨b, off + k * 13 + 9, none⟩ = some (.string xT) := hcc 9 _ rfl
      have c10 : wr.cell? ⟨b, off + k * 13 + 10, none⟩ = some (.int .i64 p1) := hcc 10 _ rfl
      have c11 : wr.cell? ⟨b, off + k * 13 + 11, none⟩ = some (.int .i64 p2) := hcc 11 _ rfl
      have c12 : wr.cell? ⟨b, off + k * 13 + 12, none⟩ = some (.slice va vn vc) := hcc 12 _ rfl
      have HD := hide (show (ls.drop k).map Prod.fst = (⟨id, hd0, ⟨xk, xp, xN, xz, xm, xs, xh, xT⟩, (p1, p2), ch⟩ : Ob) :: (ls.drop (k + 1)).map Prod.fst by rw [hd]; rfl)
      have HSK := hide hsz
      have HCR := hide hcr
      have HCL := hide hcl
      have d1 : (k : Int) < len := by omega
      have HB2 := hide (HB.out.trans ((below_alloc wr (.cells #[.int .i64 id, .bool hd0, .int .i64 xk, .int .i64 xp, .string xN, .int .i64 xz, .int .i64 xm, .int .u64 xs, .int .i64 xh, .string xT, .int .i64 p1, .int .i64 p2, .slice va vn vc] 55)).mono HB.out.size))
      have HBC := hide (below_alloc wr (.cells #[.int .i64 id, .bool hd0, .int .i64 xk, .int .i64 xp, .string xN, .int .i64 xz, .int .i64 xm, .int .u64 xs, .int .i64 xh, .string xT, .int .i64 p1, .int .i64 p2, .slice va vn vc] 55))
      clear hcc hc hd hX hkl hsz hcr hcl hvn
      cases h1 : rg id (a + 1) 1048575 with
      | false =>
        have HF := hide (obL_stop (o := ⟨id, hd0, ⟨xk, xp, xN, xz, xm, xs, xh, xT⟩, (p1, p2), ch⟩) (r := (ls.drop (k + 1)).map Prod.fst) (Or.inl h1))
        go_wp2_with (go_at_call 40; refine (pw_any _ _ _ _).mono ?_; rintro e u ⟨rfl, rfl⟩; rw [h1])
        go_ret
        exact ⟨ret_bool (by rw [← HQ.out, HA.out, HD.out, HF.out]), HB2.out⟩
      | true =>
        cases h2 : hdOk ⟨id, hd0, ⟨xk, xp, xN, xz, xm, xs, xh, xT⟩, (p1, p2), ch⟩ with
        | false =>
          have HF := hide (obL_stop (a := a) (o := ⟨id, hd0, ⟨xk, xp, xN, xz, xm, xs, xh, xT⟩, (p1, p2), ch⟩) (r := (ls.drop (k + 1)).map Prod.fst) (Or.inr (Or.inl h2)))
          go_wp2_with (first
            | (go_at_call 40; refine (pw_any _ _ _ _).mono ?_; rintro e u ⟨rfl, rfl⟩; rw [h1])
            | (go_at_call 58; refine (header58 ⟨id, hd0, ⟨xk, xp, xN, xz, xm, xs, xh, xT⟩, (p1, p2), ch⟩ va vn vc _ HSK.out.1 HSK.out.2).mono ?_; rintro e x9 ⟨rfl, b9⟩; rw [h2]; have HB9 := hide (HB2.out.trans (b9.mono HB2.out.size)); clear b9))
          go_ret
          exact ⟨ret_bool (by rw [← HQ.out, HA.out, HD.out, HF.out]), HB9.out⟩
        | true =>
          cases h3 : chsOk ch with
          | false =>
            have HF := hide (obL_stop (a := a) (o := ⟨id, hd0, ⟨xk, xp, xN, xz, xm, xs, xh, xT⟩, (p1, p2), ch⟩) (r := (ls.drop (k + 1)).map Prod.fst) (Or.inr (Or.inr h3)))
            go_wp2_with (first
              | (go_at_call 40; refine (pw_any _ _ _ _).mono ?_; rintro e u ⟨rfl, rfl⟩; rw [h1])
              | (go_at_call 58; refine (header58 ⟨id, hd0, ⟨xk, xp, xN, xz, xm, xs, xh, xT⟩, (p1, p2), ch⟩ va vn vc _ HSK.out.1 HSK.out.2).mono ?_; rintro e x9 ⟨rfl, b9⟩; rw [h2]; have hbx := (b9.block wr.heap.size (by simp)).trans (heap_alloc_new wr _); have c912 : x9.cell? ⟨wr.heap.size, 12, none⟩ = some (.slice va vn vc) := blk_cell hbx 12 rfl; have HCR9 := hide (ReadsL.below HCR.out (HBC.out.trans (b9.mono HBC.out.size))); have HB9 := hide (HB2.out.trans (b9.mono HB2.out.size)); clear b9 hbx)
              | (go_at_call 59; refine (chunks59 va vn vc ch _ HCR9.out HCL.out).mono ?_; rintro e y9 ⟨rfl, b9⟩; rw [h3]; have HB10 := hide (HB9.out.trans (b9.mono HB9.out.size)); clear b9))
            go_ret
            exact ⟨ret_bool (by rw [← HQ.out, HA.out, HD.out, HF.out]), HB10.out⟩
          | true =>
            have HF := hide (obL_go (a := a) (o := ⟨id, hd0, ⟨xk, xp, xN, xz, xm, xs, xh, xT⟩, (p1, p2), ch⟩) (r := (ls.drop (k + 1)).map Prod.fst) h1 h2 h3)
            have hno := rg_iff.1 h1
            go_wp2_with (first
              | (go_at_call 40; refine (pw_any _ _ _ _).mono ?_; rintro e u ⟨rfl, rfl⟩; rw [h1])
              | (go_at_call 58; refine (header58 ⟨id, hd0, ⟨xk, xp, xN, xz, xm, xs, xh, xT⟩, (p1, p2), ch⟩ va vn vc _ HSK.out.1 HSK.out.2).mono ?_; rintro e x9 ⟨rfl, b9⟩; rw [h2]; have hbx := (b9.block wr.heap.size (by simp)).trans (heap_alloc_new wr _); have c912 : x9.cell? ⟨wr.heap.size, 12, none⟩ = some (.slice va vn vc) := blk_cell hbx 12 rfl; have HBX := hide hbx; have HCR9 := hide (ReadsL.below HCR.out (HBC.out.trans (b9.mono HBC.out.size))); have HSX := hide b9.size; have HB9 := hide (HB2.out.trans (b9.mono HB2.out.size)); clear b9 hbx)
              | (go_at_call 59; refine (chunks59 va vn vc ch _ HCR9.out HCL.out).mono ?_; rintro e y9 ⟨rfl, b9⟩; rw [h3]; have hbx := (b9.block wr.heap.size (Nat.lt_of_lt_of_le (by simp) HSX.out)).trans HBX.out; have c90 : y9.cell? ⟨wr.heap.size, 0, none⟩ = some (.int .i64 id) := blk_cell hbx 0 rfl; have HB10 := hide (HB9.out.trans (b9.mono HB9.out.size)); clear b9 hbx))
            go_roundw
            case rel => exact ⟨k + 1, id, by omega, rfl, by go_num, by omega, by omega, by show _ = _; rw [HA.out, HD.out, HF.out], HB10⟩
            case measure => simp [intOf]; omega
    · have hkn : k = len := by omega
      subst hkn
      have HE := hide (show obL 1 (ls.map Prod.fst) = true by rw [HA.out, List.drop_of_length_le (by rw [HLN.out]; exact Nat.le_refl _)]; rfl)
      go_wp2
      go_ret
      exact ⟨ret_bool (by rw [← HQ.out, HE.out]), HB.out⟩
end Go.Proofs.Ytoaahellfflooaa
