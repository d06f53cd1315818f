/-
  SEAT Ytgijbpkfheillaa: BlocksMay's walk.
-/
import Derived.Test.YtgijbpkfheillaaMyD
import Derived.Test.YtgijbpkfheillaaMyE
import Derived.Test.YtgijbpkfheillaaOpenO
import Derived.Test.YtgijbpkfheillaaBlS
import Derived.Deep.DeepCutAuto
import Derived.Deep.CutRange
namespace Go.Proofs.Ytgijbpkfheillaa
open Go.RowKit
set_option linter.unusedVariables false

set_option maxRecDepth 100000 in
theorem mayBad (b P s3 : Int) (a : Option Addr) (len cap : Nat) (bs : List Bk) (cur last : Int) (ao : Option Addr) (lo co : Nat) (os : List Opn) (w : World) (hr : ReadsK w a len bs) (hl : len * 32 ≤ 140737488351232) (h : newE b P s3 len cur last bs ≠ 0) :
    Calls Try.prog 5 #[.agg #[.int .i64 b, .int .i64 P, .int .i64 s3], .slice a len cap, .int .i64 cur, .int .i64 last, .slice ao lo co] w fun e w' => e = .returned (.bool true) ∧ Below w.heap.size w w' := by
  have HR : Hid (ReadsK w a len bs) := hr
  have HE : Hid (newE b P s3 len cur last bs ≠ 0) := h
  clear hr h
  go_enter Try.func5, Try.ntmps5
  go_wp2_with (first | (go_at_call 8; refine (begun_bad b P s3 a len cap cur last bs _ (HR.out.below (ba (Below.refl _ _))) hl HE.out).mono ?_; rintro e u1 ⟨rfl, q1⟩; have Q1 : Hid (Below w.heap.size w u1) := (ba (Below.refl _ _)).trans (q1.mono (by simp)); clear q1))
  go_ret
  exact ⟨rfl, Q1.out⟩

/-- How it stands ahead of a round. -/
def MayS (w wr : World) (b P s3 : Int) (len gb gk : Nat) (la : Int) (lf : Bool) : Prop :=
  Below (w.alloc (.cells #[.int .i64 b, .int .i64 P, .int .i64 s3] 23)).heap.size (w.alloc (.cells #[.int .i64 b, .int .i64 P, .int .i64 s3] 23)) wr ∧ ∃ es cur vo, One wr gb gk P es cur la vo ∧ es.length = len ∧ (lf = false → NoLeft es)
theorem one_first {w : World} {gb gk : Nat} {P : Int} {bs : List Bk} {cur last : Int} {len : Nat} (hp : 4 ≤ P ∧ P ≤ 256) (hm : mayOk P last bs = true) (hl : bs.length = len) (hln : 8 ≤ len ∧ len ≤ 4096) (hc : -1 ≤ cur ∧ cur < len) (hla : -1 ≤ last ∧ last < len) (K : BookAt w gb gk P (bs.map Bk.ent) cur last (-1)) : One w gb gk P (bs.map Bk.ent) cur last none :=
  ⟨K, Inv.first hm hp.1 (by rw [hl]; exact hla), by rw [List.length_map]; omega, by rw [List.length_map]; omega⟩
theorem first_left (bs : List Bk) : NoLeft (bs.map Bk.ent) := fun i hi => by
  rw [List.length_map] at hi
  rw [entD bs i hi]
  rfl
theorem box_low {w u : World} {o : Obj} (h : Below (w.alloc o).heap.size (w.alloc o) u) : Below w.heap.size w u := (ba (Below.refl _ _)).trans (h.mono (by simp))
theorem RowAt.drewN {w : World} {g : Nat} {bs : List Bk} (h : RowAt w g bs) (k : Nat) : RowAt (w.drewN k) g bs := h
theorem One.oks {w : World} {gb gk : Nat} {P : Int} {es : List Ent} {cur last : Int} {vo : Option Nat} (h : One w gb gk P es cur last vo) (hp : 4 ≤ P ∧ P ≤ 256) : ∀ b ∈ es.map Ent.bk, b.Ok := by
  intro b hb
  obtain ⟨e, he, rfl⟩ := List.mem_map.1 hb
  obtain ⟨i, hi, rfl⟩ := List.mem_iff_getElem.1 he
  have h1 := h.iv.row i hi
  rw [List.getD_eq_getElem?_getD, List.getElem?_eq_getElem hi, Option.getD_some] at h1
  have hl := h1.l
  have hh := h1.head (by omega)
  exact ⟨by unfold Wf; have := h1.a; simp only [Ent.bk]; omega, by simp only [Ent.bk]; omega, by unfold Wf; simp only [Ent.bk]; omega⟩
theorem hol_ok {last : Int} {bs : List Bk} (h : ∀ c ∈ bs, c.Ok) : ∀ k, k ≤ bs.length → ∀ c ∈ holL last bs k, c.Ok
  | 0, _, c, hc => by cases hc
  | k + 1, hk, c, hc => by
    rw [holL, List.mem_append] at hc
    rcases hc with hc | hc
    · exact hol_ok h k (by omega) c hc
    · rw [List.mem_singleton] at hc
      subst hc
      unfold holBk
      split
      · exact ⟨by unfold Wf; simp only; split <;> omega, by simp only; omega, by unfold Wf; simp only; omega⟩
      · exact okAt h k (by omega)
theorem holR {w : World} {B g n c : Nat} {last : Int} {bs : List Bk} (hl : bs.length = n) (hok : ∀ x ∈ bs, x.Ok) (h : w.ownsRow B 34 4 (.slice (some ⟨g, 0, none⟩) n c) n (flatK (holL last bs n))) : ReadsK w (some ⟨g, 0, none⟩) n (holL last bs n) := by
  have h9 := own_readsK h (hol_ok hok n (by omega)) (Nat.le_refl n)
  rw [List.take_of_length_le (by rw [holL_len]; exact Nat.le_refl _)] at h9
  exact h9
theorem RowAt.sh {w : World} {g : Nat} {es : List Ent} (h : RowAt w g (es.map Ent.bk)) (i : Nat) (hi : i < es.length) {s hd : Int} {r : Bool} {l : Int} {lf : Bool} (hx : es.getD i Ent.zero = ⟨s, hd, r, l, lf⟩) : w.cell? ⟨g, i * 4, none⟩ = some (.int .i64 s) ∧ w.cell? ⟨g, i * 4 + 1, none⟩ = some (.int .u64 hd) := by
  have h0 := h.cell i 0 (by rw [List.length_map]; exact hi) (by omega)
  have h1 := h.cell i 1 (by rw [List.length_map]; exact hi) (by omega)
  rw [bkGet es i hi, hx] at h0 h1
  exact ⟨h0, h1⟩

set_option maxHeartbeats 8000000 in
set_option maxRecDepth 100000 in
theorem mayLawOk (b P s3 : Int) (a : Option Addr) (len cap : Nat) (bs : List Bk) (cur last : Int) (ao : Option Addr) (lo co : Nat) (os : List Opn) (w : World) (hr : ReadsK w a len bs) (hl : len * 32 ≤ 140737488351232) (hro : ReadsO w ao lo os) (hlo : lo * 32 ≤ 140737488351232) (h : newE b P s3 len cur last bs = 0) :
    Calls Try.prog 5 #[.agg #[.int .i64 b, .int .i64 P, .int .i64 s3], .slice a len cap, .int .i64 cur, .int .i64 last, .slice ao lo co] w fun e w' => e = .returned (.bool true) ∧ Below w.heap.size w w' := by
  obtain ⟨f1, f2, f3, f4, f5⟩ := newE_ok h
  subst f2
  have q3 := of_decide_eq_true f3
  have q4 := of_decide_eq_true f4
  have hb9 := fits_b f1
  have hp : 4 ≤ P ∧ P ≤ 256 := by omega
  have hbl := hr.1
  have hln : 8 ≤ len ∧ len ≤ 4096 := by omega
  have HM : Hid (mayOk P last bs = true) := f5
  have HFT : Hid (Fits len P s3 = true) := f1
  have HR : Hid (ReadsK w a len bs) := hr
  have HRO : Hid (ReadsO w ao lo os) := hro
  have HE : Hid (newE len P s3 len cur last bs = 0) := h
  clear hr h f1 f3 f4 f5 hb9 hro
  go_enter Try.func5, Try.ntmps5
  go_upto_region 4 with (first
    | (go_at_call 8; refine (begun_ok len P s3 a len cap cur last bs _ (HR.out.below (ba (Below.refl _ _))) hl HE.out).mono ?_; rintro e u1 ⟨gb, gk, gr, gl, v, rfl, K1, R1, q1, k1, k2⟩; have HO1 : Hid (One u1 gb gk P (bs.map Bk.ent) cur last none) := one_first hp HM.out hbl hln q3 q4 K1; obtain ⟨gv, cv, hv, _, _, _, _⟩ := own_shape R1.own (by omega); rw [hbl] at hv; subst hv; have c1 : u1.cell? ⟨gr, 1, none⟩ = some (.slice (some ⟨gv, 0, none⟩) len cv) := (by simp [World.cell?, R1.box]); have hgr : gr < u1.heap.size := lt_of_block R1.box; have Q1 : Hid (Below (w.alloc (.cells #[.int .i64 len, .int .i64 P, .int .i64 s3] 23)).heap.size (w.alloc (.cells #[.int .i64 len, .int .i64 P, .int .i64 s3] 23)) u1) := q1; have HK1 : Hid _ := k1; have HK2 : Hid _ := k2; have HBL : Hid _ := hbl; clear q1 k1 k2 K1 R1 hbl))
  refine wp_region_held_drew (S := (fun x => x.cell? ⟨gr, 1, none⟩ = some (.slice (some ⟨gv, 0, none⟩) len cv))) (by kernel_rfl) (c1) (fun hHeld => ?_)
  refine wpAnyH_take (i := 0) (oi := { dst := some 46, op := Op.move (Operand.tmp 12), type := 26, pos := "law.go:192", after := #[], guard := none }) (v := ?v0a) rfl (by kernel_rfl) (by kernel_rfl) (by kernel_rfl) (fun _ _ _ h => h) (Or.inl ⟨by rfl, ?y0a⟩) (by assumption) ?r0a
  case y0a => (intro x hx; (try dsimp only at hx); go_simp; try with_reducible rfl)
  try simp only [Act.put, List.setIfInBounds_toArray, List.set_cons_zero, List.set_cons_succ]
  refine wpAnyH_take (i := 1) (oi := { dst := some 47, op := Op.nilCheck (Operand.tmp 46), type := 0, pos := "law.go:192", after := #[{ on := 0, ground := Ground.data }], guard := none }) (v := ?v1a) rfl (by kernel_rfl) (by kernel_rfl) (by kernel_rfl) (fun _ _ _ h => h) (Or.inl ⟨by rfl, ?y1a⟩) (by assumption) ?r1a
  case y1a => (intro x hx; (try dsimp only at hx); go_simp; try with_reducible rfl)
  try simp only [Act.put, List.setIfInBounds_toArray, List.set_cons_zero, List.set_cons_succ]
  refine wpAnyH_take (i := 2) (oi := { dst := some 48, op := Op.fieldAddr 31 (Operand.tmp 47) 1, type := 0, pos := "law.go:192", after := #[{ on := 1, ground := Ground.data }], guard := none }) (v := ?v2a) rfl (by kernel_rfl) (by kernel_rfl) (by kernel_rfl) (fun _ _ _ h => h) (Or.inl ⟨by rfl, ?y2a⟩) (by assumption) ?r2a
  case y2a => (intro x hx; (try dsimp only at hx); go_simp; try with_reducible rfl)
  try simp only [Act.put, List.setIfInBounds_toArray, List.set_cons_zero, List.set_cons_succ]
  refine wpAnyH_take (i := 3) (oi := { dst := some 49, op := Op.load 24 (Operand.tmp 48), type := 24, pos := "law.go:192", after := #[{ on := 2, ground := Ground.data }], guard := none }) (v := ?v3a) rfl (by kernel_rfl) (by kernel_rfl) (by kernel_rfl) (fun _ _ _ h => h) (Or.inl ⟨by rfl, ?y3a⟩) (by assumption) ?r3a
  case y3a => (intro x hx; (try dsimp only at hx); go_simp; try with_reducible rfl)
  try simp only [Act.put, List.setIfInBounds_toArray, List.set_cons_zero, List.set_cons_succ]
  refine wpAnyH_take (i := 4) (oi := { dst := some 50, op := Op.call { callee := Callee.builtin Builtin.len, args := #[Operand.tmp 49], argTypes := #[24] }, type := 3, pos := "law.go:192", after := #[{ on := 3, ground := Ground.data }], guard := none }) (v := ?v4a) rfl (by kernel_rfl) (by kernel_rfl) (by kernel_rfl) (fun _ _ _ h => h) (Or.inl ⟨by rfl, ?y4a⟩) (by assumption) ?r4a
  case y4a => (intro x hx; (try dsimp only at hx); go_simp; try with_reducible rfl)
  try simp only [Act.put, List.setIfInBounds_toArray, List.set_cons_zero, List.set_cons_succ]
  refine wpAnyH_take (i := 5) (oi := { dst := some 51, op := Op.move (Operand.tmp 11), type := 25, pos := "law.go:192", after := #[], guard := none }) (v := ?v5a) rfl (by kernel_rfl) (by kernel_rfl) (by kernel_rfl) (fun _ _ _ h => h) (Or.inl ⟨by rfl, ?y5a⟩) (by assumption) ?r5a
  case y5a => (intro x hx; (try dsimp only at hx); go_simp; try with_reducible rfl)
  try simp only [Act.put, List.setIfInBounds_toArray, List.set_cons_zero, List.set_cons_succ]
  refine wpAnyH_ready (rs := [6]) (by kernel_rfl) (by simp) ?_
  refine AllReadyH.cons (o := { dst := some 52, op := Op.call { callee := Callee.value (Operand.func 16), args := #[Operand.tmp 51], argTypes := #[25] }, type := 24, pos := "law.go:192", after := #[{ on := 5, ground := Ground.data }], guard := none }) rfl (fun K hK => ?_) AllReadyH.nil
  go_simp
  go_at_call 16
  refine (list_any gb gk P _ cur last (optI none) _ (HO1.out.below (Below.refl _ _).drew).bk (by rw [List.length_map, HBL.out]; omega)).mono ?_
  rintro e u2 ⟨rfl, r2, q2⟩
  rw [List.length_map, HBL.out]
  have hSnew : u2.cell? ⟨gr, 1, none⟩ = some (.slice (some ⟨gv, 0, none⟩) len cv) := (q2.cell hgr).trans c1
  have HS0 : Hid (MayS w u2 len P s3 len gb gk last false) := ⟨Q1.out.drew.trans (q2.mono Q1.out.size), _, _, _, (HO1.out.below (Below.refl _ _).drew).below q2, by rw [List.length_map, HBL.out], fun _ => first_left bs⟩
  clear r2 q2
  go_wp2_with fail
  refine hK.out _ _ hSnew (fun hHeld6 => ?_)
  clear hK K hSnew
  clear hHeld
  have hHeld := hHeld6
  clear hHeld6
  try simp only [Act.put, List.setIfInBounds_toArray, List.set_cons_zero, List.set_cons_succ]
  refine wpAnyH_take (i := 7) (oi := { dst := some 53, op := Op.call { callee := Callee.builtin Builtin.len, args := #[Operand.tmp 52], argTypes := #[24] }, type := 3, pos := "law.go:192", after := #[{ on := 6, ground := Ground.data }], guard := none }) (v := ?v7a) rfl (by kernel_rfl) (by kernel_rfl) (by kernel_rfl) (fun _ _ _ h => h) (Or.inl ⟨by rfl, ?y7a⟩) (by assumption) ?r7a
  case y7a => (intro x hx; (try dsimp only at hx); go_simp; try with_reducible rfl)
  try simp only [Act.put, List.setIfInBounds_toArray, List.set_cons_zero, List.set_cons_succ]
  refine wpAnyH_take (i := 8) (oi := { dst := some 54, op := Op.binOp BinOp.neq 3 (Operand.tmp 50) (Operand.tmp 53) 3, type := 4, pos := "law.go:192", after := #[{ on := 4, ground := Ground.data }, { on := 7, ground := Ground.data }], guard := none }) (v := ?v8a) rfl (by kernel_rfl) (by kernel_rfl) (by kernel_rfl) (fun _ _ _ h => h) (Or.inl ⟨by rfl, ?y8a⟩) (by assumption) ?r8a
  case y8a => (intro x hx; (try dsimp only at hx); go_simp; try with_reducible rfl)
  try simp only [Act.put, List.setIfInBounds_toArray, List.set_cons_zero, List.set_cons_succ]
  refine wpAnyH_done (by kernel_rfl) ?_ _
  go_wp2
  clear c1 Q1 HO1 hHeld
  go_loopw [3, 14, 15, 16, 17, 18, 19, 20, 21, 22, 23, 24, 25, 26, 27, 28, 29] (fun x3 x14 x15 x16 x17 x18 x19 x20 x21 x22 x23 x24 x25 x26 x27 x28 x29 wr => ∃ (k : Nat) (la : Int) (lf : Bool), k ≤ lo ∧ x15 = .int .i64 k ∧ x3 = .int .i64 la ∧ x14 = .bool lf ∧ Hid (MayS w wr len P s3 len gb gk la lf))
    (fun _ _ i _ _ _ _ _ _ _ _ _ _ _ _ _ _ _ => lo - (intOf i).toNat)
  case atStart => exact ⟨0, last, false, Nat.zero_le _, rfl, rfl, rfl, HS0⟩
  case round =>
    obtain ⟨k, la, lf, hk, rfl, rfl, rfl, HS⟩ := hrel
    obtain ⟨hbA, es, cu, vo, hO, hel, hnl⟩ := HS.out
    have HBA : Hid (Below (w.alloc (.cells #[.int .i64 len, .int .i64 P, .int .i64 s3] 23)).heap.size (w.alloc (.cells #[.int .i64 len, .int .i64 P, .int .i64 s3] 23)) wr) := hbA
    have HO : Hid (One wr gb gk P es cu la vo) := hO
    have HEL : Hid (es.length = len) := hel
    have HNL : Hid (lf = false → NoLeft es) := hnl
    clear hbA hO hel hnl HS HS0
    by_cases hlt : k < lo
    · obtain ⟨go, off, rfl, hg, hcell⟩ := HRO.out.pos (by omega)
      have hok := okAtO HRO.out.2.1 k (by have := HRO.out.1; omega)
      have hc9 := hcell k hlt
      obtain ⟨X, hX⟩ : ∃ X, os.getD k Opn.zero = X := ⟨_, rfl⟩
      rw [hX] at hc9 hok
      obtain ⟨kd, ob, om, oh⟩ := X
      have HC : Hid (∀ u, Below w.heap.size w u → u.cell? ⟨go, off + k * 4, none⟩ = some (.int .i64 kd) ∧ u.cell? ⟨go, off + k * 4 + 1, none⟩ = some (.int .i64 ob) ∧ u.cell? ⟨go, off + k * 4 + 2, none⟩ = some (.int .i64 om) ∧ u.cell? ⟨go, off + k * 4 + 3, none⟩ = some (.int .u64 oh)) := fun u hu => ⟨(hu.cell hg).trans hc9.1, (hu.cell hg).trans hc9.2.1, (hu.cell hg).trans hc9.2.2.1, (hu.cell hg).trans hc9.2.2.2⟩
      have HMO : Hid (Wf om) := hok.m
      have HHO : Hid (0 ≤ oh) := hok.h.1
      have dk : (k : Int) < lo := by omega
      clear hcell hX hok hc9
      go_upto_region 12 with (first
        | (go_at_call 16; refine (list_any gb gk P es cu la (optI vo) _ HO.out.bk HO.out.n).mono ?_; rintro e t1 ⟨rfl, r1, q1⟩; rw [HEL.out]; have HR1 : Hid (RowAt t1 wr.heap.size (es.map Ent.bk)) := r1; have HB1 : Hid (Below (w.alloc (.cells #[.int .i64 len, .int .i64 P, .int .i64 s3] 23)).heap.size (w.alloc (.cells #[.int .i64 len, .int .i64 P, .int .i64 s3] 23)) t1) := HBA.out.trans (q1.mono HBA.out.size); have HO1 : Hid (One t1 gb gk P es cu la vo) := HO.out.below q1; have hgb : gb < wr.heap.size := lt_of_block HO.out.bk.box; have hgk : gk < wr.heap.size := lt_of_block HO.out.bk.row; obtain ⟨gx, hgx⟩ : ∃ gx, wr.heap.size = gx := ⟨_, rfl⟩; rw [hgx] at HR1 hgb hgk; rw [hgx]; clear r1 q1 hgx HO HBA)
        | (go_at_call 9; refine (cursor_any gb gk P es cu la (optI vo) _ HO1.out.bk).mono ?_; rintro e t1b ⟨rfl, rfl⟩))
      obtain ⟨c0, c1, c2, c3⟩ := HC.out t1 (box_low HB1.out)
      obtain ⟨LV, hLV⟩ : ∃ LV, decide (kd = 8 ∧ 0 ≤ ob ∧ ob < len ∧ (es.getD ob.toNat Ent.zero).s = 4) = LV := ⟨_, rfl⟩
      have HLV : Hid _ := hLV
      clear hLV
      go_cut [100] from 65 to 100 (fun x100 wx => x100 = .bool LV ∧ t1 = wx)
      case first =>
        by_cases z1 : kd = 8
        · subst z1
          by_cases z2 : 0 ≤ ob
          · by_cases z3 : ob < len
            · obtain ⟨j, rfl⟩ := Int.eq_ofNat_of_zero_le z2
              have hj : j < es.length := by have := HEL.out; omega
              have y0 := HR1.out.cell j 0 (by rw [List.length_map]; exact hj) (by omega)
              rw [bkGet es j hj] at y0
              have y1 : t1.cell? ⟨gx, j * 4, none⟩ = some (.int .i64 (es.getD j Ent.zero).s) := y0
              have HTN : Hid ((j : Int).toNat = j) := Int.toNat_natCast j
              obtain ⟨sj, hsj⟩ : ∃ sj, (es.getD j Ent.zero).s = sj := ⟨_, rfl⟩
              rw [hsj] at y1
              have HSJ : Hid _ := hsj
              clear y0 hsj
              by_cases z4 : sj = 4
              · subst z4
                have HV : Hid (LV = true) := by unfold Hid; rw [← HLV.out]; exact decide_eq_true ⟨rfl, z2, z3, by rw [HTN.out]; exact HSJ.out⟩
                clear HLV
                go_wp2
                go_meet
                exact ⟨by rw [HV.out], rfl⟩
              · have z5 : (sj == 4) = false := by simpa using z4
                have HV : Hid (LV = false) := by unfold Hid; rw [← HLV.out]; exact decide_eq_false (fun q => z4 (by have h9 := q.2.2.2; rw [HTN.out] at h9; exact HSJ.out.symm.trans h9))
                clear HLV
                go_wp2
                go_meet
                exact ⟨by rw [HV.out], rfl⟩
            · have HV : Hid (LV = false) := by unfold Hid; rw [← HLV.out]; exact decide_eq_false (fun q => z3 q.2.2.1)
              clear HLV
              go_wp2
              go_meet
              exact ⟨by rw [HV.out], rfl⟩
          · have HV : Hid (LV = false) := by unfold Hid; rw [← HLV.out]; exact decide_eq_false (fun q => z2 q.2.1)
            clear HLV
            go_wp2
            go_meet
            exact ⟨by rw [HV.out], rfl⟩
        · have z5 : (kd == 8) = false := by simpa using z1
          have HV : Hid (LV = false) := by unfold Hid; rw [← HLV.out]; exact decide_eq_false (fun q => z1 q.1)
          clear HLV
          go_wp2
          go_meet
          exact ⟨by rw [HV.out], rfl⟩
      case rest =>
      obtain ⟨rfl, rfl⟩ := hcut
      go_upto_if 100 with fail
      go_cut [14] from 100 to 100 (fun x14 wx => ∃ lf', x14 = .bool lf' ∧ Hid (lf' = false → lf = false ∧ ¬ (kd = 8 ∧ 0 ≤ ob ∧ ob < len ∧ (es.getD ob.toNat Ent.zero).s = 4)) ∧ t1 = wx)
      case first =>
        cases LV with
        | true =>
          go_wp2
          go_meet
          exact ⟨true, rfl, (fun q => by cases q), rfl⟩
        | false =>
          go_wp2
          go_meet
          exact ⟨lf, rfl, (fun q => ⟨q, of_decide_eq_false HLV.out⟩), rfl⟩
      case rest =>
      obtain ⟨lf', rfl, HLF, rfl⟩ := hcut
      obtain ⟨c0, c1, c2, c3⟩ := HC.out t1 (box_low HB1.out)
      go_upto_region 16 with (first
        | (go_at_call 22; refine (act_any gb gk P es cu la vo _ HO1.out hp kd ob om oh HMO.out).mono ?_; rintro e t2 ⟨er, rfl, st⟩; obtain ⟨es', cu', vo', hO2, hl2, hg2, hsm, hkp⟩ := st; have HO2 : Hid (One t2 gb gk P es' cu' (if er = 0 ∧ kd = 9 then ob else la) vo') := hO2; have HEL2 : Hid (es'.length = len) := hl2.trans HEL.out; have HR2 : Hid (RowAt t2 gx (es.map Ent.bk)) := (hg2.block gx (lt_of_block HR1.out) (by omega) (by omega)).trans HR1.out; have HB2 : Hid (Below (w.alloc (.cells #[.int .i64 len, .int .i64 P, .int .i64 s3] 23)).heap.size (w.alloc (.cells #[.int .i64 len, .int .i64 P, .int .i64 s3] 23)) t2) := Grew.below HB1.out HB1.out.size hg2 HK1.out HK2.out; have HSM : Hid (er ≠ 0 → es' = es ∧ cu' = cu) := hsm; have HKP : Hid ((kd = 8 → ∀ i : Nat, ob = i → i < es.length → (es.getD i Ent.zero).s ≠ 4) → NoLeft es → NoLeft es') := hkp; clear hO2 hl2 hg2 hsm hkp HO1 HR1 HB1)
        | (go_at_call 16; refine (list_any gb gk P es' cu' _ (optI vo') _ HO2.out.bk HO2.out.n).mono ?_; rintro e t3 ⟨rfl, r3, q3'⟩; rw [HEL2.out]; have HN3 : Hid (RowAt t3 t2.heap.size (es'.map Ent.bk)) := r3; have HR3 : Hid (RowAt t3 gx (es.map Ent.bk)) := HR2.out.below q3'; have HB3 : Hid (Below (w.alloc (.cells #[.int .i64 len, .int .i64 P, .int .i64 s3] 23)).heap.size (w.alloc (.cells #[.int .i64 len, .int .i64 P, .int .i64 s3] 23)) t3) := HB2.out.trans (q3'.mono HB2.out.size); have HO3 : Hid (One t3 gb gk P es' cu' (if er = 0 ∧ kd = 9 then ob else la) vo') := HO2.out.below q3'; obtain ⟨gy, hgy⟩ : ∃ gy, t2.heap.size = gy := ⟨_, rfl⟩; rw [hgy] at HN3; rw [hgy]; clear r3 q3' hgy HO2 HR2 HB2))
      clear c0 c1 c2 c3
      go_cut [122] from 109 to 122 (fun x122 wx => x122 = .bool false ∧ Hid (RowAt wx gy (es'.map Ent.bk)) ∧ Hid (Below (w.alloc (.cells #[.int .i64 len, .int .i64 P, .int .i64 s3] 23)).heap.size (w.alloc (.cells #[.int .i64 len, .int .i64 P, .int .i64 s3] 23)) wx) ∧ Hid (One wx gb gk P es' cu' (if er = 0 ∧ kd = 9 then ob else la) vo'))
      case first =>
        by_cases ze : er = 0
        · have zb : (er != 0) = false := by simpa using ze
          clear ze
          go_wp2
          go_meet
          exact ⟨rfl, HN3, HB3, HO3⟩
        · have zb : (er != 0) = true := by simpa using ze
          obtain ⟨e1, e2⟩ := HSM.out ze
          subst e1 e2
          have HBK : Hid (∀ c ∈ es'.map Ent.bk, c.Ok) := HO3.out.oks hp
          have HRA : Hid (ReadsK t3 (some ⟨gx, 0, none⟩) len (es'.map Ent.bk)) := by have h9 := HR3.out.readsK HBK.out; rw [List.length_map, HEL.out] at h9; exact h9
          have HRB : Hid (ReadsK t3 (some ⟨gy, 0, none⟩) len (es'.map Ent.bk)) := by have h9 := HN3.out.readsK HBK.out; rw [List.length_map, HEL.out] at h9; exact h9
          clear ze
          go_wp2_with (first
            | (go_at_call 23; refine (same_eq _ _ len _ _ (es'.map Ent.bk) _ HRA.out HRB.out (by omega)).mono ?_; rintro e t4 ⟨rfl, q4', rfl⟩; have HN4 : Hid (RowAt (t3.drewN q4') gy (es'.map Ent.bk)) := HN3.out.drewN q4'; have HB4 : Hid (Below (w.alloc (.cells #[.int .i64 len, .int .i64 P, .int .i64 s3] 23)).heap.size (w.alloc (.cells #[.int .i64 len, .int .i64 P, .int .i64 s3] 23)) (t3.drewN q4')) := below_drewN HB3.out q4'; have HO4 : Hid (One (t3.drewN q4') gb gk P es' cu' (if er = 0 ∧ kd = 9 then ob else la) vo') := HO3.out.drewN q4')
            | (go_at_call 9; refine (cursor_any gb gk P es' cu' _ (optI vo') _ HO4.out.bk).mono ?_; rintro e t4b ⟨rfl, rfl⟩))
          go_meet
          exact ⟨by first | rfl | simp, HN4, HB4, HO4⟩
      case rest =>
      obtain ⟨rfl, HN5, HB5, HO5⟩ := hcut
      clear HN3 HR3 HB3 HO3 HSM
      go_upto_region 18 with fail
      obtain ⟨c0, c1, c2, c3⟩ := HC.out _ (box_low HB5.out)
      obtain ⟨CV, hCV⟩ : ∃ CV, decide (er = 0 ∧ kd = 9) = CV := ⟨_, rfl⟩
      have HCV : Hid _ := hCV
      clear hCV c2 c3
      go_cut [132] from 123 to 132 (fun x132 wx => x132 = .bool CV ∧ wc = wx)
      case first =>
        by_cases z1 : er = 0
        · have z1b : (er == 0) = true := by simpa using z1
          have Z1 : Hid _ := z1
          clear z1
          by_cases z2 : kd = 9
          · have z2b : (kd == 9) = true := by simpa using z2
            have Z2 : Hid _ := z2
            clear z2
            go_wp2
            go_meet
            exact ⟨congrArg Value.bool ((decide_eq_true ⟨Z1.out, Z2.out⟩).symm.trans HCV.out), rfl⟩
          · have z2b : (kd == 9) = false := by simpa using z2
            go_wp2
            go_meet
            exact ⟨congrArg Value.bool ((decide_eq_false (fun q => z2 q.2)).symm.trans HCV.out), rfl⟩
        · have z1b : (er == 0) = false := by simpa using z1
          go_wp2
          go_meet
          exact ⟨congrArg Value.bool ((decide_eq_false (fun q => z1 q.1)).symm.trans HCV.out), rfl⟩
      case rest =>
      obtain ⟨rfl, rfl⟩ := hcut
      go_upto_if 132 with fail
      go_cut [3] from 132 to 137 (fun x3 wx => x3 = .int .i64 (if er = 0 ∧ kd = 9 then ob else la) ∧ wc = wx)
      case first =>
        cases CV with
        | true =>
          go_wp2
          go_meet
          exact ⟨by rw [if_pos (of_decide_eq_true HCV.out)], rfl⟩
        | false =>
          go_wp2
          go_meet
          exact ⟨by rw [if_neg (of_decide_eq_false HCV.out)], rfl⟩
      case rest =>
      obtain ⟨rfl, rfl⟩ := hcut
      obtain ⟨la', hla'⟩ : ∃ la', (if er = 0 ∧ kd = 9 then ob else la) = la' := ⟨_, rfl⟩
      rw [hla'] at HO5 ⊢
      have HNL2 : Hid (lf' = false → NoLeft es') := fun q => by
        obtain ⟨q1, q2⟩ := HLF.out q
        refine HKP.out (fun k8 i hi hil hs => q2 ⟨k8, by omega, by have := HEL.out; omega, ?_⟩) (HNL.out q1)
        rw [hi, Int.toNat_natCast]
        exact hs
      clear hla' HKP HLF HNL c0 c1 HLV HCV HC HMO HHO
      have HOK : Hid (∀ c ∈ es'.map Ent.bk, c.Ok) := HO5.out.oks hp
      have HLM : Hid ((es'.map Ent.bk).length = len) := by unfold Hid; rw [List.length_map, HEL2.out]
      have hRN := HN5.out.readsK HOK.out
      rw [HLM.out] at hRN
      have HRN : Hid _ := hRN
      clear hRN
      have HMAY : Hid (mayOk P la' (holL la' (es'.map Ent.bk) len) = true) := by have h9 := HO5.out.iv.hol_may; rw [HEL2.out] at h9; exact h9
      have hN1 : holN (es'.map Ent.bk) len ≤ 1 := by have h9 := HO5.out.iv.hol_one; rw [HEL2.out] at h9; exact h9
      obtain ⟨N, hN⟩ : ∃ N, holN (es'.map Ent.bk) len = N := ⟨_, rfl⟩
      rw [hN] at hN1
      have HNN : Hid _ := hN
      clear hN
      go_upto_region 23 with (first
        | (go_at_call 24; refine (hollowl_any (some ⟨gy, 0, none⟩) len len (es'.map Ent.bk) la' _ HRN.out (by omega)).mono ?_; rintro e t6 ⟨vf, rfl, of6, q6⟩; rw [HNN.out]; obtain ⟨gf, cf, hvf, _, _, _, _⟩ := own_shape of6 (by omega); subst hvf; have HRF : Hid (ReadsK t6 (some ⟨gf, 0, none⟩) len (holL la' (es'.map Ent.bk) len)) := holR HLM.out HOK.out of6; have HN6 : Hid (RowAt t6 gy (es'.map Ent.bk)) := HN5.out.below q6; have HB6 : Hid (Below (w.alloc (.cells #[.int .i64 len, .int .i64 P, .int .i64 s3] 23)).heap.size (w.alloc (.cells #[.int .i64 len, .int .i64 P, .int .i64 s3] 23)) t6) := HB5.out.trans (q6.mono HB5.out.size); have HO6 : Hid (One t6 gb gk P es' cu' la' vo') := HO5.out.below q6; obtain ⟨p0, p1, p2⟩ := box3 HB6.out; clear of6 q6 HN5 HB5 HO5 HRN p0 p2)
        | (go_at_call 25; refine (rmay_any P la' _ len _ _ _ HRF.out (by omega) hp).mono ?_; rintro e t7 ⟨rfl, q7⟩; rw [HMAY.out]; have HN7 : Hid (RowAt t7 gy (es'.map Ent.bk)) := HN6.out.below q7; have HB7 : Hid (Below (w.alloc (.cells #[.int .i64 len, .int .i64 P, .int .i64 s3] 23)).heap.size (w.alloc (.cells #[.int .i64 len, .int .i64 P, .int .i64 s3] 23)) t7) := HB6.out.trans (q7.mono HB6.out.size); have HO7 : Hid (One t7 gb gk P es' cu' la' vo') := HO6.out.below q7; clear q7 HN6 HB6 HO6 HRF p1))
      have HSN : Hid (MayS w t7 len P s3 len gb gk la' lf') := ⟨HB7.out, es', cu', vo', HO7.out, HEL2.out, HNL2.out⟩
      cases lf' with
      | true =>
        go_wp2
        go_roundw
        case rel => exact ⟨k + 1, la', true, by omega, by go_num, rfl, rfl, HSN⟩
        case measure => simp [intOf]; omega
      | false =>
      by_cases hN0 : N = 0
      · subst hN0
        have HNLF : Hid (NoLeft es') := HNL2.out rfl
        have HNE : Hid (newE len P s3 len cu' la' (es'.map Ent.bk) = 0) := by
          unfold Hid newE
          have h1 := HO7.out.iv.ln
          have h2 := HO7.out.cl
          rw [HEL2.out] at h1 h2
          have h3 : mayOk P la' (es'.map Ent.bk) = true := by
            have h4 := HMAY.out
            have h5 := holL_id la' (bs := es'.map Ent.bk) (by rw [HLM.out]; exact HNN.out)
            rw [HLM.out] at h5
            rw [h5] at h4
            exact h4
          rw [if_pos HFT.out, if_pos ⟨rfl, h2.1, h2.2, h1.1, h1.2⟩, if_pos h3]
        have HN5K : Hid (es'.length ≤ 5000) := by unfold Hid; rw [HEL2.out]; omega
        obtain ⟨GG, hGG⟩ : ∃ GG, (es'.length : Int) - (cnt [6, 4] es' es'.length : Nat) = GG := ⟨_, rfl⟩
        have HGG : Hid _ := hGG
        obtain ⟨AA, hAA⟩ : ∃ AA, cnt [0, 5, 3] es' es'.length = AA := ⟨_, rfl⟩
        have HAA : Hid _ := hAA
        obtain ⟨LL, hLL⟩ : ∃ LL, cntP logE es' es'.length = LL := ⟨_, rfl⟩
        have HLL : Hid _ := hLL
        clear hGG hAA hLL HMAY HNN HNL2 hN1
        go_upto_region 24 with fail
        have HND : Hid (RowAt t7.drew gy (es'.map Ent.bk)) := HN7.out
        have HBD : Hid (Below (w.alloc (.cells #[.int .i64 len, .int .i64 P, .int .i64 s3] 23)).heap.size (w.alloc (.cells #[.int .i64 len, .int .i64 P, .int .i64 s3] 23)) t7.drew) := HB7.out.drew
        have HOD : Hid (One t7.drew gb gk P es' cu' la' vo') := HO7.out.below (Below.refl _ _).drew
        have HRD : Hid (ReadsK t7.drew (some ⟨gy, 0, none⟩) len (es'.map Ent.bk)) := by have h9 := HND.out.readsK HOK.out; rw [HLM.out] at h9; exact h9
        refine wp_region_held_drew (S := (fun x => x.cell? ⟨w.heap.size, 0, none⟩ = some (.int .i64 len) ∧ x.cell? ⟨w.heap.size, 1, none⟩ = some (.int .i64 P) ∧ x.cell? ⟨w.heap.size, 2, none⟩ = some (.int .i64 s3))) (by kernel_rfl) (box3 HBD.out) (fun hHeld => ?_)
        refine wpAnyH_take (i := 0) (oi := { dst := some 160, op := Op.load 23 (Operand.tmp 5), type := 23, pos := "law.go:217", after := #[], guard := none }) (v := ?v0n) rfl (by kernel_rfl) (by kernel_rfl) (by kernel_rfl) (fun _ _ _ h => h) (Or.inl ⟨by rfl, ?y0n⟩) (by assumption) ?r0n
        case y0n => (intro x hx; (try dsimp only at hx); go_simp; try with_reducible rfl)
        try simp only [Act.put, List.setIfInBounds_toArray, List.set_cons_zero, List.set_cons_succ]
        refine wpAnyH_take (i := 1) (oi := { dst := some 161, op := Op.move (Operand.tmp 19), type := 24, pos := "law.go:217", after := #[], guard := none }) (v := ?v1n) rfl (by kernel_rfl) (by kernel_rfl) (by kernel_rfl) (fun _ _ _ h => h) (Or.inl ⟨by rfl, ?y1n⟩) (by assumption) ?r1n
        case y1n => (intro x hx; (try dsimp only at hx); go_simp; try with_reducible rfl)
        try simp only [Act.put, List.setIfInBounds_toArray, List.set_cons_zero, List.set_cons_succ]
        refine wpAnyH_take (i := 3) (oi := { dst := some 163, op := Op.move (Operand.tmp 11), type := 25, pos := "law.go:217", after := #[], guard := none }) (v := ?v3n) rfl (by kernel_rfl) (by kernel_rfl) (by kernel_rfl) (fun _ _ _ h => h) (Or.inl ⟨by rfl, ?y3n⟩) (by assumption) ?r3n
        case y3n => (intro x hx; (try dsimp only at hx); go_simp; try with_reducible rfl)
        try simp only [Act.put, List.setIfInBounds_toArray, List.set_cons_zero, List.set_cons_succ]
        refine wpAnyH_take (i := 5) (oi := { dst := some 165, op := Op.move (Operand.tmp 3), type := 3, pos := "law.go:217", after := #[], guard := none }) (v := ?v5n) rfl (by kernel_rfl) (by kernel_rfl) (by kernel_rfl) (fun _ _ _ h => h) (Or.inl ⟨by rfl, ?y5n⟩) (by assumption) ?r5n
        case y5n => (intro x hx; (try dsimp only at hx); go_simp; try with_reducible rfl)
        try simp only [Act.put, List.setIfInBounds_toArray, List.set_cons_zero, List.set_cons_succ]
        refine wpAnyH_ready (rs := [2]) (by kernel_rfl) (by simp) ?_
        refine AllReadyH.cons (o := { dst := some 162, op := Op.call { callee := Callee.value (Operand.func 27), args := #[Operand.tmp 161], argTypes := #[24] }, type := 24, pos := "law.go:217", after := #[{ on := 1, ground := Ground.data }], guard := none }) rfl (fun K hK => ?_) AllReadyH.nil
        go_simp
        go_at_call 27
        refine (copied_any _ len len (es'.map Ent.bk) _ (by omega) HRD.out).mono ?_
        rintro e t8 ⟨gc, cc, rfl, hcc, oc, q8⟩
        have HRC : Hid (ReadsK t8 (some ⟨gc, 0, none⟩) len (es'.map Ent.bk)) := copyR HLM.out HOK.out oc
        have HN8 : Hid (RowAt t8 gy (es'.map Ent.bk)) := HND.out.below q8
        have HB8 : Hid (Below (w.alloc (.cells #[.int .i64 len, .int .i64 P, .int .i64 s3] 23)).heap.size (w.alloc (.cells #[.int .i64 len, .int .i64 P, .int .i64 s3] 23)) t8) := HBD.out.trans (q8.mono HBD.out.size)
        have HO8 : Hid (One t8 gb gk P es' cu' la' vo') := HOD.out.below q8
        clear q8 HND HBD HOD
        have hSnew := box3 HB8.out
        clear oc HRD
        go_wp2_with fail
        refine hK.out _ _ hSnew (fun hHeld2 => ?_)
        clear hK K hSnew
        clear hHeld
        have hHeld := hHeld2
        clear hHeld2
        try simp only [Act.put, List.setIfInBounds_toArray, List.set_cons_zero, List.set_cons_succ]
        refine wpAnyH_ready (rs := [4]) (by kernel_rfl) (by simp) ?_
        refine AllReadyH.cons (o := { dst := some 164, op := Op.call { callee := Callee.value (Operand.func 9), args := #[Operand.tmp 163], argTypes := #[25] }, type := 3, pos := "law.go:217", after := #[{ on := 3, ground := Ground.data }, { on := 2, ground := Ground.chain }], guard := none }) rfl (fun K hK => ?_) AllReadyH.nil
        go_simp
        go_at_call 9
        refine (cursor_any gb gk P es' cu' la' (optI vo') _ HO8.out.bk).mono ?_
        rintro e t8b ⟨rfl, rfl⟩
        have hSnew := box3 HB8.out
        go_wp2_with fail
        refine hK.out _ _ hSnew (fun hHeld4 => ?_)
        clear hK K hSnew
        clear hHeld
        have hHeld := hHeld4
        clear hHeld4
        try simp only [Act.put, List.setIfInBounds_toArray, List.set_cons_zero, List.set_cons_succ]
        refine wpAnyH_ready (rs := [6]) (by kernel_rfl) (by simp) ?_
        refine AllReadyH.cons (o := { dst := some 166, op := Op.call { callee := Callee.value (Operand.func 26), args := #[Operand.tmp 160, Operand.tmp 162, Operand.tmp 164, Operand.tmp 165], argTypes := #[23, 24, 3, 3] }, type := 56, pos := "law.go:217", after := #[{ on := 0, ground := Ground.data }, { on := 2, ground := Ground.data }, { on := 4, ground := Ground.data }, { on := 5, ground := Ground.data }, { on := 4, ground := Ground.chain }], guard := none }) rfl (fun K hK => ?_) AllReadyH.nil
        go_simp
        go_at_call 26
        refine (new_ok len P s3 (some ⟨gc, 0, none⟩) len cc cu' la' (es'.map Ent.bk) _ HRC.out HNE.out).mono ?_
        rintro e t9 ⟨gb2, gk2, rfl, k9, q9, _, _⟩
        rw [NoLeft.back HNLF.out] at k9
        have HK9 : Hid (BookAt t9 gb2 gk2 P es' cu' la' (-1)) := k9
        have HN9 : Hid (RowAt t9 gy (es'.map Ent.bk)) := HN8.out.below q9
        have HB9 : Hid (Below (w.alloc (.cells #[.int .i64 len, .int .i64 P, .int .i64 s3] 23)).heap.size (w.alloc (.cells #[.int .i64 len, .int .i64 P, .int .i64 s3] 23)) t9) := HB8.out.trans (q9.mono HB8.out.size)
        have HO9 : Hid (One t9 gb gk P es' cu' la' vo') := HO8.out.below q9
        clear q9 HN8 HB8 HO8
        have hSnew := box3 HB9.out
        clear k9 HRC
        go_wp2_with fail
        refine hK.out _ _ hSnew (fun hHeld6 => ?_)
        clear hK K hSnew
        clear hHeld
        have hHeld := hHeld6
        clear hHeld6
        try simp only [Act.put, List.setIfInBounds_toArray, List.set_cons_zero, List.set_cons_succ]
        refine wpAnyH_take (i := 7) (oi := { dst := some 159, op := Op.move (Operand.tmp 166), type := 56, pos := "law.go:217", after := #[{ on := 6, ground := Ground.data }], guard := none }) (v := ?v7n) rfl (by kernel_rfl) (by kernel_rfl) (by kernel_rfl) (fun _ _ _ h => h) (Or.inl ⟨by rfl, ?y7n⟩) (by assumption) ?r7n
        case y7n => (intro x hx; (try dsimp only at hx); go_simp; try with_reducible rfl)
        try simp only [Act.put, List.setIfInBounds_toArray, List.set_cons_zero, List.set_cons_succ]
        refine wpAnyH_take (i := 8) (oi := { dst := some 167, op := Op.extract (Operand.tmp 159) 0, type := 25, pos := "law.go:217", after := #[{ on := 7, ground := Ground.data }], guard := none }) (v := ?v8n) rfl (by kernel_rfl) (by kernel_rfl) (by kernel_rfl) (fun _ _ _ h => h) (Or.inl ⟨by rfl, ?y8n⟩) (by assumption) ?r8n
        case y8n => (intro x hx; (try dsimp only at hx); go_simp; try with_reducible rfl)
        try simp only [Act.put, List.setIfInBounds_toArray, List.set_cons_zero, List.set_cons_succ]
        refine wpAnyH_take (i := 9) (oi := { dst := some 168, op := Op.extract (Operand.tmp 159) 1, type := 38, pos := "law.go:217", after := #[{ on := 7, ground := Ground.data }, { on := 10, ground := Ground.gcOnly Departure.lateStores }], guard := none }) (v := ?v9n) rfl (by kernel_rfl) (by kernel_rfl) (by kernel_rfl) (fun _ _ _ h => h) (Or.inl ⟨by rfl, ?y9n⟩) (by assumption) ?r9n
        case y9n => (intro x hx; (try dsimp only at hx); go_simp; try with_reducible rfl)
        try simp only [Act.put, List.setIfInBounds_toArray, List.set_cons_zero, List.set_cons_succ]
        refine wpAnyH_take (i := 10) (oi := { dst := some 22, op := Op.assign (Operand.tmp 167), type := 25, pos := "law.go:217", after := #[{ on := 8, ground := Ground.data }, { on := 6, ground := Ground.chain }, { on := 0, ground := Ground.phase }, { on := 1, ground := Ground.phase }, { on := 2, ground := Ground.phase }, { on := 3, ground := Ground.phase }, { on := 4, ground := Ground.phase }, { on := 5, ground := Ground.phase }, { on := 6, ground := Ground.phase }, { on := 7, ground := Ground.phase }, { on := 8, ground := Ground.phase }, { on := 9, ground := Ground.textOnly Departure.lateStores }], guard := none }) (v := ?v10n) rfl (by kernel_rfl) (by kernel_rfl) (by kernel_rfl) (fun _ _ _ h => h) (Or.inl ⟨by rfl, ?y10n⟩) (by assumption) ?r10n
        case y10n => (intro x hx; (try dsimp only at hx); go_simp; try with_reducible rfl)
        try simp only [Act.put, List.setIfInBounds_toArray, List.set_cons_zero, List.set_cons_succ]
        refine wpAnyH_take (i := 11) (oi := { dst := some 23, op := Op.assign (Operand.tmp 168), type := 38, pos := "law.go:217", after := #[{ on := 9, ground := Ground.data }, { on := 10, ground := Ground.chain }, { on := 0, ground := Ground.phase }, { on := 1, ground := Ground.phase }, { on := 2, ground := Ground.phase }, { on := 3, ground := Ground.phase }, { on := 4, ground := Ground.phase }, { on := 5, ground := Ground.phase }, { on := 6, ground := Ground.phase }, { on := 7, ground := Ground.phase }, { on := 8, ground := Ground.phase }, { on := 9, ground := Ground.phase }, { on := 10, ground := Ground.phase }], guard := none }) (v := ?v11n) rfl (by kernel_rfl) (by kernel_rfl) (by kernel_rfl) (fun _ _ _ h => h) (Or.inl ⟨by rfl, ?y11n⟩) (by assumption) ?r11n
        case y11n => (intro x hx; (try dsimp only at hx); go_simp; try with_reducible rfl)
        try simp only [Act.put, List.setIfInBounds_toArray, List.set_cons_zero, List.set_cons_succ]
        refine wpAnyH_done (by kernel_rfl) ?_ _
        cases ho : oldE es' with
        | none =>
          have HOV : Hid (oldV (oldE es') = .tuple #[.int .i64 0, .int .u64 0, .bool false]) := by unfold Hid; rw [ho]; rfl
          clear ho hHeld
          go_wp2_with (first
            | (go_at_call 11; refine (good_any gb2 gk2 P es' cu' la' (-1) _ HK9.out HN5K.out).mono ?_; rintro e ta ⟨rfl, qa⟩; rw [HGG.out]; have HNa : Hid (RowAt ta gy (es'.map Ent.bk)) := HN9.out.below qa; have HBa : Hid (Below (w.alloc (.cells #[.int .i64 len, .int .i64 P, .int .i64 s3] 23)).heap.size (w.alloc (.cells #[.int .i64 len, .int .i64 P, .int .i64 s3] 23)) ta) := HB9.out.trans (qa.mono HB9.out.size); have HOa : Hid (One ta gb gk P es' cu' la' vo') := HO9.out.below qa; have HKa : Hid (BookAt ta gb2 gk2 P es' cu' la' (-1)) := HK9.out.below qa; clear qa HN9 HB9 HO9 HK9)
            | (go_at_call 11; refine (good_any gb gk P es' cu' la' (optI vo') _ HOa.out.bk HN5K.out).mono ?_; rintro e tb ⟨rfl, qb⟩; rw [HGG.out]; have HNb : Hid (RowAt tb gy (es'.map Ent.bk)) := HNa.out.below qb; have HBb : Hid (Below (w.alloc (.cells #[.int .i64 len, .int .i64 P, .int .i64 s3] 23)).heap.size (w.alloc (.cells #[.int .i64 len, .int .i64 P, .int .i64 s3] 23)) tb) := HBa.out.trans (qb.mono HBa.out.size); have HOb : Hid (One tb gb gk P es' cu' la' vo') := HOa.out.below qb; have HKb : Hid (BookAt tb gb2 gk2 P es' cu' la' (-1)) := HKa.out.below qb; clear qb HNa HBa HOa HKa)
            | (go_at_call 20; refine (near_any gb2 gk2 P es' cu' la' (-1) _ HKb.out HN5K.out).mono ?_; rintro e tc ⟨rfl, qc⟩; rw [HAA.out]; have HNc : Hid (RowAt tc gy (es'.map Ent.bk)) := HNb.out.below qc; have HBc : Hid (Below (w.alloc (.cells #[.int .i64 len, .int .i64 P, .int .i64 s3] 23)).heap.size (w.alloc (.cells #[.int .i64 len, .int .i64 P, .int .i64 s3] 23)) tc) := HBb.out.trans (qc.mono HBb.out.size); have HOc : Hid (One tc gb gk P es' cu' la' vo') := HOb.out.below qc; have HKc : Hid (BookAt tc gb2 gk2 P es' cu' la' (-1)) := HKb.out.below qc; clear qc HNb HBb HOb HKb)
            | (go_at_call 20; refine (near_any gb gk P es' cu' la' (optI vo') _ HOc.out.bk HN5K.out).mono ?_; rintro e td ⟨rfl, qd⟩; rw [HAA.out]; have HNd : Hid (RowAt td gy (es'.map Ent.bk)) := HNc.out.below qd; have HBd : Hid (Below (w.alloc (.cells #[.int .i64 len, .int .i64 P, .int .i64 s3] 23)).heap.size (w.alloc (.cells #[.int .i64 len, .int .i64 P, .int .i64 s3] 23)) td) := HBc.out.trans (qd.mono HBc.out.size); have HOd : Hid (One td gb gk P es' cu' la' vo') := HOc.out.below qd; have HKd : Hid (BookAt td gb2 gk2 P es' cu' la' (-1)) := HKc.out.below qd; clear qd HNc HBc HOc HKc)
            | (go_at_call 13; refine (logged_count gb2 gk2 P es' cu' la' (-1) _ HKd.out HN5K.out).mono ?_; rintro e te ⟨rfl, qe⟩; rw [HLL.out]; have HNe : Hid (RowAt te gy (es'.map Ent.bk)) := HNd.out.below qe; have HBe : Hid (Below (w.alloc (.cells #[.int .i64 len, .int .i64 P, .int .i64 s3] 23)).heap.size (w.alloc (.cells #[.int .i64 len, .int .i64 P, .int .i64 s3] 23)) te) := HBd.out.trans (qe.mono HBd.out.size); have HOe : Hid (One te gb gk P es' cu' la' vo') := HOd.out.below qe; have HKe : Hid (BookAt te gb2 gk2 P es' cu' la' (-1)) := HKd.out.below qe; clear qe HNd HBd HOd HKd)
            | (go_at_call 13; refine (logged_count gb gk P es' cu' la' (optI vo') _ HOe.out.bk HN5K.out).mono ?_; rintro e tf ⟨rfl, qf⟩; rw [HLL.out]; have HNf : Hid (RowAt tf gy (es'.map Ent.bk)) := HNe.out.below qf; have HBf : Hid (Below (w.alloc (.cells #[.int .i64 len, .int .i64 P, .int .i64 s3] 23)).heap.size (w.alloc (.cells #[.int .i64 len, .int .i64 P, .int .i64 s3] 23)) tf) := HBe.out.trans (qf.mono HBe.out.size); have HOf : Hid (One tf gb gk P es' cu' la' vo') := HOe.out.below qf; have HKf : Hid (BookAt tf gb2 gk2 P es' cu' la' (-1)) := HKe.out.below qf; clear qf HNe HBe HOe HKe)
            | (go_at_call 9; refine (cursor_any gb2 gk2 P es' cu' la' (-1) _ HKf.out).mono ?_; rintro e tg ⟨rfl, rfl⟩)
            | (go_at_call 9; refine (cursor_any gb gk P es' cu' la' (optI vo') _ HOf.out.bk).mono ?_; rintro e tg ⟨rfl, rfl⟩)
            | (go_at_call 28; refine (oldest_any gb gk P es' cu' la' (optI vo') _ HOf.out.bk HN5K.out).mono ?_; rintro e th ⟨rfl, qh⟩; rw [HOV.out]; have HNh : Hid (RowAt th gy (es'.map Ent.bk)) := HNf.out.below qh; have HBh : Hid (Below (w.alloc (.cells #[.int .i64 len, .int .i64 P, .int .i64 s3] 23)).heap.size (w.alloc (.cells #[.int .i64 len, .int .i64 P, .int .i64 s3] 23)) th) := HBf.out.trans (qh.mono HBf.out.size); have HOh : Hid (One th gb gk P es' cu' la' vo') := HOf.out.below qh; have HKh : Hid (BookAt th gb2 gk2 P es' cu' la' (-1)) := HKf.out.below qh; clear qh HNf HBf HOf HKf)
            | (go_at_call 28; refine (oldest_any gb2 gk2 P es' cu' la' (-1) _ HKh.out HN5K.out).mono ?_; rintro e ti ⟨rfl, qi⟩; rw [HOV.out]; have HNi : Hid (RowAt ti gy (es'.map Ent.bk)) := HNh.out.below qi; have HBi : Hid (Below (w.alloc (.cells #[.int .i64 len, .int .i64 P, .int .i64 s3] 23)).heap.size (w.alloc (.cells #[.int .i64 len, .int .i64 P, .int .i64 s3] 23)) ti) := HBh.out.trans (qi.mono HBh.out.size); have HOi : Hid (One ti gb gk P es' cu' la' vo') := HOh.out.below qi; have HKi : Hid (BookAt ti gb2 gk2 P es' cu' la' (-1)) := HKh.out.below qi; clear qi HNh HBh HOh HKh))
          go_roundw
          case rel => exact ⟨k + 1, la', false, by omega, by go_num, rfl, rfl, ⟨HBi.out, es', cu', vo', HOi.out, HEL2.out, fun _ => HNLF.out⟩⟩
          case measure => simp [intOf]; omega
        | some p =>
          obtain ⟨v, hd⟩ := p
          have HOV : Hid (oldV (oldE es') = .tuple #[.int .i64 (v : Nat), .int .u64 hd, .bool true]) := by unfold Hid; rw [ho]; rfl
          obtain ⟨f1, f2, f3, f4, f5⟩ := old_facts ho
          obtain ⟨X, hX⟩ : ∃ X, es'.getD v Ent.zero = X := ⟨_, rfl⟩
          rw [hX] at f2 f3
          obtain ⟨sv, hv, rv, lv, fv⟩ := X
          have HX : Hid _ := hX
          have dv : (v : Int) < len := by have := HEL2.out; omega
          have ds : (sv == 2) = false := by have := (cand_of'.1 f2).2; simpa using this
          simp only at f3
          have dh : ¬ (hd ≤ hv) := by omega
          clear ho hX f2 f4 f5 hHeld
          go_wp2_with (first
            | (go_at_call 11; refine (good_any gb2 gk2 P es' cu' la' (-1) _ HK9.out HN5K.out).mono ?_; rintro e ta ⟨rfl, qa⟩; rw [HGG.out]; have HNa : Hid (RowAt ta gy (es'.map Ent.bk)) := HN9.out.below qa; have HBa : Hid (Below (w.alloc (.cells #[.int .i64 len, .int .i64 P, .int .i64 s3] 23)).heap.size (w.alloc (.cells #[.int .i64 len, .int .i64 P, .int .i64 s3] 23)) ta) := HB9.out.trans (qa.mono HB9.out.size); have HOa : Hid (One ta gb gk P es' cu' la' vo') := HO9.out.below qa; have HKa : Hid (BookAt ta gb2 gk2 P es' cu' la' (-1)) := HK9.out.below qa; clear qa HN9 HB9 HO9 HK9)
            | (go_at_call 11; refine (good_any gb gk P es' cu' la' (optI vo') _ HOa.out.bk HN5K.out).mono ?_; rintro e tb ⟨rfl, qb⟩; rw [HGG.out]; have HNb : Hid (RowAt tb gy (es'.map Ent.bk)) := HNa.out.below qb; have HBb : Hid (Below (w.alloc (.cells #[.int .i64 len, .int .i64 P, .int .i64 s3] 23)).heap.size (w.alloc (.cells #[.int .i64 len, .int .i64 P, .int .i64 s3] 23)) tb) := HBa.out.trans (qb.mono HBa.out.size); have HOb : Hid (One tb gb gk P es' cu' la' vo') := HOa.out.below qb; have HKb : Hid (BookAt tb gb2 gk2 P es' cu' la' (-1)) := HKa.out.below qb; clear qb HNa HBa HOa HKa)
            | (go_at_call 20; refine (near_any gb2 gk2 P es' cu' la' (-1) _ HKb.out HN5K.out).mono ?_; rintro e tc ⟨rfl, qc⟩; rw [HAA.out]; have HNc : Hid (RowAt tc gy (es'.map Ent.bk)) := HNb.out.below qc; have HBc : Hid (Below (w.alloc (.cells #[.int .i64 len, .int .i64 P, .int .i64 s3] 23)).heap.size (w.alloc (.cells #[.int .i64 len, .int .i64 P, .int .i64 s3] 23)) tc) := HBb.out.trans (qc.mono HBb.out.size); have HOc : Hid (One tc gb gk P es' cu' la' vo') := HOb.out.below qc; have HKc : Hid (BookAt tc gb2 gk2 P es' cu' la' (-1)) := HKb.out.below qc; clear qc HNb HBb HOb HKb)
            | (go_at_call 20; refine (near_any gb gk P es' cu' la' (optI vo') _ HOc.out.bk HN5K.out).mono ?_; rintro e td ⟨rfl, qd⟩; rw [HAA.out]; have HNd : Hid (RowAt td gy (es'.map Ent.bk)) := HNc.out.below qd; have HBd : Hid (Below (w.alloc (.cells #[.int .i64 len, .int .i64 P, .int .i64 s3] 23)).heap.size (w.alloc (.cells #[.int .i64 len, .int .i64 P, .int .i64 s3] 23)) td) := HBc.out.trans (qd.mono HBc.out.size); have HOd : Hid (One td gb gk P es' cu' la' vo') := HOc.out.below qd; have HKd : Hid (BookAt td gb2 gk2 P es' cu' la' (-1)) := HKc.out.below qd; clear qd HNc HBc HOc HKc)
            | (go_at_call 13; refine (logged_count gb2 gk2 P es' cu' la' (-1) _ HKd.out HN5K.out).mono ?_; rintro e te ⟨rfl, qe⟩; rw [HLL.out]; have HNe : Hid (RowAt te gy (es'.map Ent.bk)) := HNd.out.below qe; have HBe : Hid (Below (w.alloc (.cells #[.int .i64 len, .int .i64 P, .int .i64 s3] 23)).heap.size (w.alloc (.cells #[.int .i64 len, .int .i64 P, .int .i64 s3] 23)) te) := HBd.out.trans (qe.mono HBd.out.size); have HOe : Hid (One te gb gk P es' cu' la' vo') := HOd.out.below qe; have HKe : Hid (BookAt te gb2 gk2 P es' cu' la' (-1)) := HKd.out.below qe; clear qe HNd HBd HOd HKd)
            | (go_at_call 13; refine (logged_count gb gk P es' cu' la' (optI vo') _ HOe.out.bk HN5K.out).mono ?_; rintro e tf ⟨rfl, qf⟩; rw [HLL.out]; have HNf : Hid (RowAt tf gy (es'.map Ent.bk)) := HNe.out.below qf; have HBf : Hid (Below (w.alloc (.cells #[.int .i64 len, .int .i64 P, .int .i64 s3] 23)).heap.size (w.alloc (.cells #[.int .i64 len, .int .i64 P, .int .i64 s3] 23)) tf) := HBe.out.trans (qf.mono HBe.out.size); have HOf : Hid (One tf gb gk P es' cu' la' vo') := HOe.out.below qf; have HKf : Hid (BookAt tf gb2 gk2 P es' cu' la' (-1)) := HKe.out.below qf; clear qf HNe HBe HOe HKe)
            | (go_at_call 9; refine (cursor_any gb2 gk2 P es' cu' la' (-1) _ HKf.out).mono ?_; rintro e tg ⟨rfl, rfl⟩)
            | (go_at_call 9; refine (cursor_any gb gk P es' cu' la' (optI vo') _ HOf.out.bk).mono ?_; rintro e tg ⟨rfl, rfl⟩)
            | (go_at_call 28; refine (oldest_any gb gk P es' cu' la' (optI vo') _ HOf.out.bk HN5K.out).mono ?_; rintro e th ⟨rfl, qh⟩; rw [HOV.out]; have HNh : Hid (RowAt th gy (es'.map Ent.bk)) := HNf.out.below qh; have HBh : Hid (Below (w.alloc (.cells #[.int .i64 len, .int .i64 P, .int .i64 s3] 23)).heap.size (w.alloc (.cells #[.int .i64 len, .int .i64 P, .int .i64 s3] 23)) th) := HBf.out.trans (qh.mono HBf.out.size); have HOh : Hid (One th gb gk P es' cu' la' vo') := HOf.out.below qh; have HKh : Hid (BookAt th gb2 gk2 P es' cu' la' (-1)) := HKf.out.below qh; clear qh HNf HBf HOf HKf)
            | (go_at_call 28; refine (oldest_any gb2 gk2 P es' cu' la' (-1) _ HKh.out HN5K.out).mono ?_; rintro e ti ⟨rfl, qi⟩; rw [HOV.out]; have HNi : Hid (RowAt ti gy (es'.map Ent.bk)) := HNh.out.below qi; have HBi : Hid (Below (w.alloc (.cells #[.int .i64 len, .int .i64 P, .int .i64 s3] 23)).heap.size (w.alloc (.cells #[.int .i64 len, .int .i64 P, .int .i64 s3] 23)) ti) := HBh.out.trans (qi.mono HBh.out.size); have HOi : Hid (One ti gb gk P es' cu' la' vo') := HOh.out.below qi; have HKi : Hid (BookAt ti gb2 gk2 P es' cu' la' (-1)) := HKh.out.below qi; clear qi HNh HBh HOh HKh; obtain ⟨y0, y1⟩ := HNi.out.sh v (by have := HEL2.out; omega) HX.out))
          go_roundw
          case rel => exact ⟨k + 1, la', false, by omega, by go_num, rfl, rfl, ⟨HBi.out, es', cu', vo', HOi.out, HEL2.out, fun _ => HNLF.out⟩⟩
          case measure => simp [intOf]; omega
      · have dN : (0 : Int) < N := by omega
        go_wp2
        go_roundw
        case rel => exact ⟨k + 1, la', false, by omega, by go_num, rfl, rfl, HSN⟩
        case measure => simp [intOf]; omega
    · have hkn : k = lo := by omega
      subst hkn
      go_wp2
      go_ret
      exact ⟨rfl, box_low HBA.out⟩
end Go.Proofs.Ytgijbpkfheillaa
