/-
  SEAT Ytjginocbbnmgaaa: TnodeTypes, its walk.
-/
import Derived.Test.YtjginocbbnmgaaaTyP
namespace Go.Proofs.Ytjginocbbnmgaaa
open Go.RowKit
set_option linter.unusedVariables false

theorem got_put_p (P : Plc.Mp) (k : Nat) (v : Int × Int) : Plc.got (Plc.at1 (Plc.upd P k v) (k : Int)) = .tuple #[.agg #[.int .i64 v.1, .int .i64 v.2], .bool true] := by
  unfold Plc.at1 Plc.upd
  rw [if_pos (by omega), Int.toNat_natCast, if_pos rfl]
  rfl
theorem got_put_s (Q : Str.Mp) (k : Nat) (v : ByteArray) : Str.got (Str.at1 (Str.upd Q k v) (k : Int)) = .tuple #[.string v, .bool true] := by
  unfold Str.at1 Str.upd
  rw [if_pos (by omega), Int.toNat_natCast, if_pos rfl]
  rfl
theorem got_bad_p {w u : World} {gp gs h : Nat} {n : Int} {P : Plc.Mp} {Q : Str.Mp} (hB : Both w u gp gs h n P Q) {k : Int} (hk : k < 0 ∨ 1048575 < k) : Plc.got (Plc.at1 P k) = .tuple #[.agg #[.int .i64 0, .int .i64 0], .bool false] := by
  have : Plc.at1 P k = none := by
    unfold Plc.at1
    split
    · exact hB.p.out _ (by have := dig_le5 h hB.p.h5; omega)
    · rfl
  rw [this]
  rfl
theorem got_bad_s {w u : World} {gp gs h : Nat} {n : Int} {P : Plc.Mp} {Q : Str.Mp} (hB : Both w u gp gs h n P Q) {k : Int} (hk : k < 0 ∨ 1048575 < k) : Str.got (Str.at1 Q k) = .tuple #[.string ⟨#[]⟩, .bool false] := by
  have : Str.at1 Q k = none := by
    unfold Str.at1
    split
    · exact hB.s.out _ (by have := dig_le5 h hB.s.h5; omega)
    · rfl
  rw [this]
  rfl
/-- The number kept is that of the keys. -/
def Kept (n : Int) (P : Plc.Mp) : Prop := ∃ G : Mp, (∀ k, (P k).isSome = (G k).isSome) ∧ n = ((num G : Nat) : Int)
theorem bump_num {n : Int} {P : Plc.Mp} (h : Kept n P) {k : Nat} (hk : k < 1048576) (v : Int × Int) : Kept (bump (P k).isSome n) (Plc.upd P k v) := by
  obtain ⟨G, h1, rfl⟩ := h
  refine ⟨upd G k 0, fun j => ?_, ?_⟩
  · unfold Plc.upd upd
    split
    · rfl
    · exact h1 j
  · rw [num_upd G k 0 hk, h1 k]
    unfold bump
    split
    · rfl
    · rw [Int.natCast_add]; rfl
theorem Kept.le {n : Int} {P : Plc.Mp} (h : Kept n P) : 0 ≤ n ∧ n < 1099511627776 := by
  obtain ⟨G, _, rfl⟩ := h
  have := num_le G
  exact ⟨by omega, by omega⟩
theorem kept0 : Kept 0 (fun _ => none) := ⟨M0, fun _ => rfl, by rw [num_M0]; rfl⟩
set_option maxHeartbeats 16000000 in
set_option maxRecDepth 100000 in
theorem types_walk (a : Option Addr) (len cap : Nat) (ks : List Int) (a2 : Option Addr) (len2 cap2 : Nat) (ts : List ByteArray) (w : World) (hr : ReadsI w a len ks) (hs : len * 8 ≤ 140737488351232) (hr2 : ReadsT w a2 len2 ts) :
    Calls Try.prog 5 #[.slice a len cap, .slice a2 len2 cap2] w fun e w' => e = .returned (.bool true) ∧ Below w.heap.size w w' := by
  have HR : Hid (ReadsI w a len ks) := hr
  have HR2 : Hid (ReadsT w a2 len2 ts) := hr2
  have HHS : Hid _ := hs
  clear hr hs hr2
  go_enter Try.func5, Try.ntmps5
  go_upto_region 3 with (first | (go_at_call 9; refine (heads_any _).mono ?_; rintro e u0 ⟨rfl, b0⟩; have B0 : Hid (Below w.heap.size w u0) := b0; clear b0))
  obtain ⟨gp, hgp⟩ : ∃ gp, u0.heap.size = gp := ⟨_, rfl⟩
  have HGP : Hid _ := hgp
  clear hgp
  go_upto_region 4 with (first | (go_at_call 21; refine (Plc.newt_any _).mono ?_; rintro e u1 ⟨rfl, t1, b1⟩; rw [HGP.out] at t1 ⊢; have T1 : Hid _ := t1; have B1 : Hid (Below u0.heap.size u0 u1) := b1; clear t1 b1))
  obtain ⟨gs, hgs⟩ : ∃ gs, u1.heap.size = gs := ⟨_, rfl⟩
  have HGS : Hid _ := hgs
  clear hgs
  go_upto_region 7 with (first | (go_at_call 22; refine (Str.newt_any _).mono ?_; rintro e u2 ⟨rfl, t2, b2⟩; rw [HGS.out] at t2 ⊢; have B2 : Hid (Both w u2 gp gs 0 0 (fun _ => none) (fun _ => none)) := ⟨T1.out.below b2, t2, fun _ => rfl, (B0.out.trans (B1.out.mono B0.out.size)).trans (b2.mono (Nat.le_trans B0.out.size B1.out.size)), by rw [← HGP.out]; exact B0.out.size, by rw [← HGS.out]; exact Nat.le_trans B0.out.size B1.out.size⟩; clear t2 b2))
  go_wp2_with fail
  go_loopw [7] (fun s7 wr => ∃ (i h : Nat) (n : Int) (P : Plc.Mp) (Q : Str.Mp), i ≤ len ∧ s7 = .int .i64 (i : Int) ∧ Hid (Kept n P) ∧ Hid (Both w wr gp gs h n P Q)) (fun i _ => len - (intOf i).toNat)
  case atStart => exact ⟨0, 0, 0, _, _, by omega, rfl, kept0, B2⟩
  case round =>
    obtain ⟨i, h, n, P, Q, hi, rfl, HNN, HB⟩ := hrel
    by_cases hc : i < len
    · have dc : (i : Int) < (len : Int) := by omega
      have wi : IntKind.i64.wrap ((i : Int) + 1) = (i : Int) + 1 := by have := HHS.out; rw [IntKind.wrap_i64]; omega
      have wn : IntKind.i64.wrap (-(i : Int)) = -(i : Int) := by have := HHS.out; rw [IntKind.wrap_i64]; omega
      obtain ⟨b, off, hab, hbl, hcl⟩ := ReadsI.pos HR.out (show 0 < len by omega)
      obtain ⟨k, hk⟩ : ∃ k, ks.getD i 0 = k := ⟨_, rfl⟩
      have hcu : ∀ u, Below w.heap.size w u → u.cell? ⟨b, off + i, none⟩ = some (.int .i64 k) := fun u hu => by
        rw [← hk]
        exact (hu.cell (p := ⟨b, off + i, none⟩) hbl).trans (hcl i hc)
      have HCU : Hid _ := hcu
      have x0 := hcu wr HB.out.bel
      subst hab
      clear hcu hcl hbl hk
      obtain ⟨sx, hsx⟩ : ∃ sx, textAt ts i = sx := ⟨_, rfl⟩
      have htx : (∃ b2 off2, a2 = some ⟨b2, off2, none⟩ ∧ (i : Int) < (len2 : Int) ∧ wr.cell? ⟨b2, off2 + i, none⟩ = some (.string sx)) ∨ (¬ ((i : Int) < (len2 : Int)) ∧ sx = ⟨#[]⟩) := by
        by_cases hl : i < len2
        · obtain ⟨b2, off2, h1, h2, h3⟩ := ReadsT.pos HR2.out (show 0 < len2 by omega)
          exact Or.inl ⟨b2, off2, h1, by omega, by rw [← hsx]; exact (HB.out.bel.cell (p := ⟨b2, off2 + i, none⟩) h2).trans (h3 i hl)⟩
        · refine Or.inr ⟨by omega, ?_⟩
          rw [← hsx]
          unfold textAt
          rw [List.getD_eq_getElem?_getD, List.getElem?_eq_none (by have := HR2.out.1; omega)]
          rfl
      clear hsx
      by_cases hm : 0 ≤ k ∧ k ≤ 1048575
      · obtain ⟨kk, rfl⟩ := Int.eq_ofNat_of_zero_le hm.1
        have hk5 : kk < 1048576 := by omega
        have HMAY : Hid _ := may_key hk5
        have HK5 : Hid _ := hk5
        have HPP : Hid _ := Plc.put_any gp h kk ((i : Int), -(i : Int)) n P wr HB.out.p hk5 (Kept.le HNN.out)
        clear hm hk5
        rcases htx with ⟨b2, off2, rfl, d2, x2⟩ | ⟨d2, rfl⟩
        all_goals
          go_wp2_with (first
            | (go_at_call 23; refine Calls.mono HPP.out ?_; rintro e u3 ⟨h3, rfl, t3, p3, g3⟩; have hs3 : Str.TreeOn u3 gs h n Q := (by obtain ⟨_, hbx, _⟩ := HB.out.p.blk; exact HB.out.s.other hbx (by decide) (by decide) (fun e => HB.out.ne e.symm) g3); have B3 : Hid (Below w.heap.size w u3) := keep_new HB.out.bel HB.out.lowP g3; have x3 := HCU.out u3 B3.out; have HT3 : Hid _ := And.intro t3 (And.intro p3 g3); have HS3 : Hid (∀ z, Calls Try.prog 24 #[.pointer (some ⟨gs, 0, none⟩), .int .i64 (kk : Int), .string z] u3 _) := (fun z => Str.put_any gs h kk z n Q u3 hs3 HK5.out (Kept.le HNN.out)); clear t3 p3 g3 hs3 x0)
            | (go_at_call 24; refine Calls.mono (HS3.out _) ?_; rintro e u4 ⟨h4, rfl, t4, p4, g4⟩; have B4 : Hid _ := Both.put HB.out HT3.out.1 HT3.out.2.1 HT3.out.2.2 t4 p4 g4; have x4 := HCU.out u4 B4.out.bel; have HGP2 : Hid _ := Plc.get_any gp h3 (kk : Int) _ _ u4 B4.out.p; rw [got_put_p] at HGP2; clear t4 p4 g4 x3)
            | (go_at_call 25; refine Calls.mono HGP2.out ?_; rintro e u5 ⟨rfl, b5⟩; have B5 : Hid _ := (B4.out.below b5).below (below_new u5 (.cells #[.int .i64 (i : Int), .int .i64 (-(i : Int))] 47)); have x5 := HCU.out _ B5.out.bel; have HGS2 : Hid _ := Str.get_any gs h3 (kk : Int) _ _ _ B5.out.s; rw [got_put_s] at HGS2; clear b5 x4)
            | (go_at_call 26; refine Calls.mono HGS2.out ?_; rintro e u6 ⟨rfl, q6, rfl⟩)
            | (go_at_call 20; refine (no_any _ _).mono ?_; rintro e u7 ⟨rfl, rfl⟩)
            | (go_at_call 27; refine (may_any (kk : Int) _).mono ?_; rintro e u7 ⟨rfl, rfl⟩; rw [HMAY.out]))
          go_roundw
          all_goals first
            | exact ⟨i + 1, h3, _, _, _, by omega, by first | rfl | simp, bump_num HNN.out HK5.out ((i : Int), -(i : Int)), B5.out.below (below_drewN (Below.refl _ _) q6)⟩
            | (simp [intOf]; omega)
      · have hbad : k < 0 ∨ 1048575 < k := by omega
        have HMAY : Hid (mayB k = false) := decide_eq_false (by omega)
        have HBAD : Hid _ := hbad
        clear hm hbad
        rcases htx with ⟨b2, off2, rfl, d2, x2⟩ | ⟨d2, rfl⟩
        all_goals
          go_wp2_with (first
            | (go_at_call 23; refine (Plc.put_bad gp k ((i : Int), -(i : Int)) wr HBAD.out).mono ?_; rintro e u3 ⟨rfl, b3⟩; have B3 : Hid _ := HB.out.below b3; have x3 := HCU.out u3 B3.out.bel; clear b3 x0)
            | (go_at_call 24; refine (Str.put_bad gs 0 k _ 0 _ HBAD.out).mono ?_; rintro e u4 ⟨rfl, rfl⟩; have HGP2 : Hid _ := Plc.get_any gp h k _ _ _ B3.out.p; rw [got_bad_p B3.out HBAD.out] at HGP2)
            | (go_at_call 25; refine Calls.mono HGP2.out ?_; rintro e u5 ⟨rfl, b5⟩; have B5 : Hid _ := (B3.out.below b5).below (below_new u5 (.cells #[.int .i64 0, .int .i64 0] 47)); have x5 := HCU.out _ B5.out.bel; have HGS2 : Hid _ := Str.get_any gs h k _ _ _ B5.out.s; rw [got_bad_s B5.out HBAD.out] at HGS2; clear b5 x3)
            | (go_at_call 26; refine Calls.mono HGS2.out ?_; rintro e u6 ⟨rfl, q6, rfl⟩)
            | (go_at_call 20; refine (no_any _ _).mono ?_; rintro e u7 ⟨rfl, rfl⟩)
            | (go_at_call 27; refine (may_any k _).mono ?_; rintro e u7 ⟨rfl, rfl⟩; rw [HMAY.out]))
          go_roundw
          all_goals first
            | exact ⟨i + 1, h, _, _, _, by omega, by first | rfl | simp, HNN, B5.out.below (below_drewN (Below.refl _ _) q6)⟩
            | (simp [intOf]; omega)
    · have dc : ¬ ((i : Int) < (len : Int)) := by omega
      have HL1 : Hid _ := Plc.len_any gp h n P wr HB.out.p
      have HL2 : Hid _ := Str.len_any gs h n Q wr HB.out.s
      have HH1 : Hid _ := Plc.height_any gp h n P wr HB.out.p
      have HH2 : Hid _ := Str.height_any gs h n Q wr HB.out.s
      go_wp2_with (first
        | (go_at_call 28; refine Calls.mono HL1.out ?_; rintro e u ⟨rfl, rfl⟩)
        | (go_at_call 29; refine Calls.mono HL2.out ?_; rintro e u ⟨rfl, rfl⟩)
        | (go_at_call 30; refine Calls.mono HH1.out ?_; rintro e u ⟨rfl, rfl⟩)
        | (go_at_call 31; refine Calls.mono HH2.out ?_; rintro e u ⟨rfl, rfl⟩))
      go_ret
      exact ⟨rfl, HB.out.bel⟩
end Go.Proofs.Ytjginocbbnmgaaa
