/-
  SEAT YtdiifegljonojaaGreatDoor: a copy of names; a leaf's names.
-/
import Derived.Test.YtdiifegljonojaaGreatDoorRc
import Derived.Lib.LazyBuf
import Derived.Handy
namespace Go.Proofs.YtdiifegljonojaaGreatDoor
open Go.RowKit
set_option linter.unusedVariables false

theorem wpList_append_rd {w : World} {ops : Array Oper} {rest : List Oper} {o : Oper} {a : Act} {Q : Exit → Act → World → Prop} (hgd : o.guard = none) (s x : Operand)
    (ho : o.op = .call { callee := .builtin .append, args := #[s, x], argTypes := #[50, 50] })
    (base : Nat) (v : Value) (xs : List ByteArray) (hs : a.eval s = v) (hown : Pt.Ow w base v xs)
    (ad : Option Addr) (c : Nat) (ys : List ByteArray) (hx : a.eval x = .slice ad ys.length c) (hrd : Pt.RdS w ad ys.length ys)
    (hbytes : (xs.length + ys.length) * 16 ≤ 140737488355328) (hbase : base ≤ w.heap.size)
    (h : ∀ v' w', Pt.Ow w' base v' (xs ++ ys) → w.grownBy w' v.ownBlock → wpList Tryz.prog ops Q rest (a.put o.dst v') w') : wpList Tryz.prog ops Q (o :: rest) a w := by
  obtain ⟨i0, hi, hz0, hz1, hz2⟩ := (info_parts Pt.info9)
  have h63 : xs.length + ys.length ≤ maxLen := by simp [maxLen]; omega
  cases ad with
  | some ad =>
    refine wpList_append_own w hgd s x 50 ho base 9 i0 (.string ByteArray.empty) 1 16 Tryz.underlying50 hi hz0 hz1 hz2 rfl (by decide) v xs.length (xs.map Value.string) hs hown ad ys.length c (ys.map Value.string) hx (by simp) ?_ ?_ h63 hbytes hbase ?_
    · intro j u hj
      rw [List.getElem?_map] at hj
      cases hb : ys[j]? with
      | none => rw [hb] at hj; simp at hj
      | some q =>
        rw [hb] at hj
        simp at hj
        rw [← hj]
        exact hrd.cell ad rfl j q hb
    · intro u hu
      obtain ⟨b, _, rfl⟩ := List.mem_map.1 hu
      rfl
    · intro v' w' o1 g1 _
      refine h v' w' ?_ g1
      show World.ownsRow _ _ _ _ _ _ _
      simpa using o1
  | none =>
    have h0 := hrd.nil rfl
    have hz0' : ys = [] := List.eq_nil_of_length_eq_zero h0
    subst hz0'
    have hrun : (Builtin.append_ #[50, 50] o.type #[v, .slice none 0 c]).run Tryz.prog w = .ok v w := by
      rcases hown.2 with ⟨rfl, _⟩ | ⟨g, cap, cur, rfl, _, _, hnc, _⟩
      · simp [Builtin.append_, run_underlying Tryz.underlying50, sizeOf, typeInfo, hi, Builtin.lenOf, Builtin.firstCells]
      · simp [Builtin.append_, run_underlying Tryz.underlying50, sizeOf, typeInfo, hi, Builtin.lenOf, Builtin.firstCells, hnc, storeCells]
    refine wpList_plain hgd fun K hK => ?_
    unfold Oper.wp
    simp only [List.length_nil] at hx
    simp [execOp, ho, resolve, invoke, builtin, hs, hx, hrun, Result.andThen]
    exact hK _ _ (h v w (by simpa using hown) (World.grownBy.refl _ _))


theorem ow_made (w : World) : Pt.Ow (w.alloc (.cells #[] 9)) w.heap.size (.slice (some ⟨w.heap.size, 0, none⟩) 0 0) [] := World.ownsRow_made w #[] 0 (Nat.le_refl _) (by simp [maxLen]) rfl

theorem Pt.Vw.take {w : World} {a : Option Addr} {c n : Nat} {xs : List ByteArray} (h : Pt.Vw w (.slice a xs.length c) xs) (hn : n ≤ xs.length) : Pt.RdS w a n (xs.take n) := by
  obtain ⟨a', c', e, h1, h2, rd, hp⟩ := h
  cases e
  refine ⟨by simp; omega, fun e => by have := rd.nil e; omega, fun x hx j u hu => ?_⟩
  rcases Nat.lt_or_ge j n with hj | hj
  · rw [List.getElem?_take_of_lt hj] at hu
    exact rd.cell x hx j u hu
  · rw [List.getElem?_eq_none (by simp; omega)] at hu
    cases hu

set_option maxHeartbeats 1000000 in
set_option maxRecDepth 100000 in
theorem clone_any (a : Option Addr) (n c : Nat) (xs : List ByteArray) (w : World) (rd : Pt.RdS w a n xs) (hl : n ≤ 1000000) :
    Calls Tryz.prog 105 #[.slice a n c] w fun e w' => ∃ v, e = .returned v ∧ Pt.Ow w' w.heap.size v xs ∧ Below w.heap.size w w' := by
  have HN : Hid (xs.length = n) := rd.len
  have HR : Hid (Pt.RdS w a n xs) := rd
  clear rd
  cases a with
  | none =>
    have h0 := HR.out.nil rfl
    subst h0
    have hnil := fun w : World => _root_.Go.run_eql_slice_nil (P := Tryz.prog) w 50 9 none 0 c Tryz.underlying50
    have hx : xs = [] := List.eq_nil_of_length_eq_zero HN.out
    subst hx
    go_enter Tryz.func105, Tryz.ntmps105
    go_wp2
    go_ret
    exact ⟨_, rfl, Pt.ow_nil _ _, Below.refl _ _⟩
  | some x =>
    have HB := hide (ow_made w)
    have hnil := fun w : World => _root_.Go.run_eql_slice_nil (P := Tryz.prog) w 50 9 (some x) n c Tryz.underlying50
    have HRD : Hid (Pt.RdS (w.alloc (.cells #[] 9)) (some x) n xs) := HR.out.below (below_alloc w _)
    go_enter Tryz.func105, Tryz.ntmps105
    go_wp2_with (at_builtin; refine wpList_append_rd rfl (.tmp 5) (.tmp 6) rfl w.heap.size _ [] rfl HB.out (some x) c xs (by rw [HN.out]; rfl) (by rw [HN.out]; exact HRD.out) (by have := HN.out; simp; omega) (by simp) ?_; intro v2 w2 own2 grow2; have HO := hide own2; have HG := hide grow2; clear own2 grow2)
    go_ret
    refine ⟨_, rfl, by simpa using HO.out, ?_⟩
    exact (below_alloc w _).grown HG.out (by simp) (fun k hk => (Pt.Ow.at HB.out k hk).1)

/-- What names takes: its own box, then the clone. -/
theorem Pt.Vw.grown {w w' : World} {q : Nat} {v : Value} {xs : List ByteArray} {cs : Value} {t : TypeId} (h : Pt.Vw w v xs) (hq : w.heap[q]? = some (.cells #[cs] t (0, 0))) (hs : ∀ s, cs ≠ .string s) (hg : w.grownBy w' (some q)) : Pt.Vw w' v xs := by
  obtain ⟨a, c, hv, h1, h2, rd, hp⟩ := h
  refine ⟨a, c, hv, h1, h2, ⟨rd.len, rd.nil, fun x hx j u hu => ?_⟩, hp⟩
  obtain ⟨b, o, rfl⟩ := hp x hx
  have hc := rd.cell _ hx j u hu
  rw [plain_add] at hc ⊢
  have hbq : b ≠ q := by
    rintro rfl
    simp only [World.cell?, hq] at hc
    cases hoj : o + j with
    | zero => rw [hoj] at hc; simp at hc; exact hs u hc
    | succ m => rw [hoj] at hc; simp at hc
  rw [World.cell?_of_block (w := w) (hg.block b (block_lt_of_cell hc) (fun e => hbq (Option.some.inj e)))]
  exact hc

theorem RdAt.vw {w w' : World} {B q : Nat} {rest : List Int} {v : Value} {xs : List ByteArray} (h : RdAt w B q rest) (hv : Pt.Vw w v xs) (hg : w.grownBy w' (some q)) : Pt.Vw w' v xs := by
  obtain ⟨b, off, c, h0, _⟩ := h
  exact hv.grown h0 (fun s => by intro e; cases e) hg

theorem strOf_small {b : List Int} {n : Nat} (h : b.length ≤ n) : (strOfNums b).size ≤ n := by rw [strOfNums_size]; exact h

theorem wholeR_ok {n : Nat} {lo hi v : Int} {bs r : List Int} (h : wholeR n lo hi bs = .ok (v, r)) : n ≤ bs.length ∧ lo ≤ v ∧ v ≤ hi ∧ v = getL bs 0 n ∧ r = bs.drop n := by
  unfold wholeR at h
  split at h
  · rename_i h1
    split at h
    · rename_i h2
      cases h
      exact ⟨h1, h2.1, h2.2, rfl, rfl⟩
    · cases h
  · cases h

def NmV (w : World) (ns : List ByteArray) (val : Value) (w' : World) : Prop := ∃ v, val = .tuple #[v, .string (Pt.tg ns)] ∧ Pt.Ow w' w.heap.size v ns

theorem row_new (u : World) (s : ByteArray) : Pt.RdS (u.alloc (.cells #[.string s] 9)) (some ⟨u.heap.size, 0, none⟩) [s].length [s] := by
  refine ⟨rfl, (fun e => by cases e), fun x hx j v hv => ?_⟩
  cases hx
  match j, hv with
  | 0, hv => simp at hv; subst hv; simp [Addr.add]

theorem RdAt.blk {w : World} {B q : Nat} {rest : List Int} (h : RdAt w B q rest) : ∃ x, w.heap[q]? = some (.cells #[.slice (some x) rest.length 0] 91 (0, 0)) ∨ ∃ c, w.heap[q]? = some (.cells #[.slice (some x) rest.length c] 91 (0, 0)) := by
  obtain ⟨b, off, c, h0, _⟩ := h
  exact ⟨⟨b, off, none⟩, Or.inr ⟨c, h0⟩⟩

theorem joS_ok {xs : List ByteArray} (h : Pt.joE xs = 0) : Pt.joS xs = Pt.tg xs := by unfold Pt.joS; rw [if_pos h]

set_option maxHeartbeats 2000000 in
set_option maxRecDepth 100000 in
theorem names_any (B q : Nat) (v : Value) (xs : List ByteArray) (d : Bool) (k : Nat) (rest : List Int) (w : World) (hR : RdAt w B q rest) (hl : rest.length ≤ 200000000000000) (hv : Pt.Vw w v xs) (hk : k ≤ xs.length) (hx : xs.length ≤ 64) (hxs : ∀ x ∈ xs, x.size ≤ 63) :
    Calls Tryz.prog 90 #[.pointer (some ⟨q, 0, none⟩), .agg #[v, .bool d], .int .i64 (k : Int)] w (Left w B q (namesR xs k rest) (NmV w)) := by
  have hBq := hR.lt
  obtain ⟨a, c, rfl, h1, h2, rd, hp⟩ := hv
  obtain ⟨n, hn⟩ : ∃ n, xs.length = n := ⟨_, rfl⟩
  have HR0 : Hid (RdAt (w.alloc (.cells #[.slice a n c, .bool d] 52)) B q rest) := hR.below (below_alloc w _)
  have HV : Hid (Pt.Vw (w.alloc (.cells #[.slice a n c, .bool d] 52)) (.slice a n c) xs) := by unfold Hid; rw [← hn]; exact (show Pt.Vw w (.slice a xs.length c) xs from ⟨a, c, rfl, h1, h2, rd, hp⟩).below (below_alloc w _)
  have HN : Hid (xs.length = n) := hn
  have HXS := hide hxs
  have HBX : Hid ((w.alloc (.cells #[.slice a n c, .bool d] 52)).heap[w.heap.size]? = some (.cells #[.slice a n c, .bool d] 52 (0, 0))) := heap_alloc_new w _
  have HG0 : Hid (w.grownBy (w.alloc (.cells #[.slice a n c, .bool d] 52)) (some q)) := World.grownBy_alloc w _ _
  rw [hn] at hk hx h1 ⊢
  have hcn : (c : Int) ≤ 9223372036854775807 := by unfold maxLen at h2; omega
  have hkc : k ≤ c := by omega
  have hkc2 : (k : Int) ≤ (c : Int) := by omega
  have hsz0 : w.heap.size < (w.alloc (.cells #[.slice a n c, .bool d] 52)).heap.size := by simp
  obtain ⟨u0, hu0⟩ : ∃ u0, w.alloc (.cells #[.slice a n c, .bool d] 52) = u0 := ⟨_, rfl⟩
  have HU0 := hide hu0
  rw [hu0] at HR0 HV HBX HG0 hsz0
  clear hR rd hp hn hxs hu0
  cases hw : wholeR 1 1 63 rest with
  | error x =>
    have HW := hide hw
    have HP : Hid (namesR xs k rest = .error x) := by unfold Hid namesR; rw [hw]
    clear hw
    go_enter Tryz.func90, Tryz.ntmps90
    go_wp2_with (first
      | (go_at_call 88; rw [HU0.out]; refine (whole_any B q 1 1 63 rest _ HR0.out hl (by omega) (by omega)).mono ?_; intro e u1 lf; rw [HW.out] at lf; obtain ⟨rfl, g1⟩ := lf; have HG1 := hide g1; clear g1))
    exact ⟨rfl, left_err HP.out (grownBy_trans HG0.out HG1.out)⟩
  | ok p =>
    obtain ⟨mi, r1⟩ := p
    obtain ⟨q1, q2, q3, q4, q5⟩ := wholeR_ok hw
    obtain ⟨m, rfl⟩ := Int.eq_ofNat_of_zero_le (show 0 ≤ mi by omega)
    have hr1 : r1.length ≤ 200000000000000 := by rw [q5, List.length_drop]; omega
    have HW := hide hw
    have hm1 : 1 ≤ m := by omega
    have hm2 : m ≤ 63 := by omega
    clear q1 q2 q3 q4 q5
    by_cases ht : m ≤ r1.length
    · obtain ⟨bs, hbs⟩ : ∃ bs, r1.take m = bs := ⟨_, rfl⟩
      have hbl : bs.length = m := by rw [← hbs, List.length_take]; omega
      obtain ⟨nm, hnm⟩ : ∃ nm, strOfNums bs = nm := ⟨_, rfl⟩
      have hnl : nm.size ≤ 63 := by rw [← hnm, strOfNums_size]; omega
      obtain ⟨L, hL⟩ : ∃ L, xs.take k ++ [nm] = L := ⟨_, rfl⟩
      have HP0 : Hid (namesR xs k rest = if !Pt.upB nm && decide (Pt.joE L = 0) && aheadB xs k nm then .ok (L, r1.drop m) else .error 191) := by
        unfold Hid namesR; rw [hw]; simp only [Int.toNat_natCast, takeR, if_pos ht, hbs, hnm, hL]
      have hLs : ∀ x ∈ L, x.size ≤ 9223372036854775807 := by
        intro x hx9
        rw [← hL] at hx9
        rcases List.mem_append.1 hx9 with h9 | h9
        · have := HXS.out x (List.mem_of_mem_take h9); omega
        · simp at h9; rw [h9]; omega
      have HLS := hide hLs
      have HLD := hide hL
      have HNM := hide hnm
      have HBS := hide hbs
      clear hLs hL hnm hbs hbl hw
      cases hup : Pt.upB nm with
      | true =>
        have HP : Hid (namesR xs k rest = .error 191) := by rw [hup] at HP0; exact HP0
        have hup2 : nm.toList = [46, 46] := (Pt.up_list nm).1 hup
        clear hup
        go_enter Tryz.func90, Tryz.ntmps90
        go_wp2_with (first
          | (go_at_call 88; rw [HU0.out]; refine (whole_any B q 1 1 63 rest _ HR0.out hl (by omega) (by omega)).mono ?_; intro e u1 lf; rw [HW.out] at lf; obtain ⟨val, rfl, rfl, rd1, g1⟩ := lf; have HG1 := hide g1; have HR1 := hide rd1; have HV1 := hide (RdAt.vw HR0.out HV.out g1); have HBX1 := hide ((g1.block _ hsz0 (fun e => by have e' := Option.some.inj e; omega)).trans HBX.out); clear g1 rd1)
          | (go_at_call 70; refine (row_ok B q m r1 _ HR1.out hr1 ht).mono ?_; rintro e u2 ⟨b2, o2, c2, rfl, rs2, _, _, _, rd2, g2⟩; rw [HBS.out] at rs2; have hcv := conv (some ⟨b2, o2, none⟩) m c2 bs u2 rs2; rw [HNM.out] at hcv
             have hs1 := (Array.getElem?_eq_some_iff.1 HBX1.out).1
             have hbx2 := (g2.block _ hs1 (fun e => by have e' := Option.some.inj e; omega)).trans HBX1.out
             have cc0 : u2.cell? ⟨w.heap.size, 0, none⟩ = some (.slice a n c) := by simp [World.cell?, hbx2]
             have cc1 : u2.cell? ⟨w.heap.size, 1, none⟩ = some (.bool d) := by simp [World.cell?, hbx2]
             have HR2 := hide rd2
             have HV2 := hide (RdAt.vw HR1.out HV1.out g2)
             have HG2 := hide (grownBy_trans (grownBy_trans HG0.out HG1.out) g2)
             have hs2 := (Array.getElem?_eq_some_iff.1 hbx2).1
             have HBX2 := hide hbx2
             have HS2 := hide hs2
             have HTK : Hid (Pt.RdS u2 a k (xs.take k)) := (by have h9 := HV2.out; rw [← HN.out] at h9; exact Pt.Vw.take h9 (by rw [HN.out]; exact hk))
             clear rs2 rd2 g2 hbx2 hs1 hs2)
          | (go_at_call 105; refine (clone_any a k c (xs.take k) _ HTK.out (by omega)).mono ?_; rintro e u3 ⟨v3, rfl, o3, b3⟩
             have HO3 := hide (Pt.Ow.below o3 (below_alloc u3 (.cells #[.string nm] 9)))
             have HB3 := hide (b3.alloc b3.size (.cells #[.string nm] 9))
             have HS3 := hide b3.size
             clear o3 b3 cc0 cc1)
          | (at_builtin; refine wpList_append_rd rfl (.tmp 21) (.tmp 23) rfl u2.heap.size v3 (xs.take k) rfl HO3.out (some ⟨u3.heap.size, 0, none⟩) 1 [nm] rfl (row_new u3 nm) (by have := HN.out; simp; omega) (by have := HS3.out; simp; omega) ?_; intro v4 u4 o4 g4
             rw [HLD.out] at o4
             have hb4 := HB3.out.grown g4 (by have := HS3.out; simp; omega) (fun i hi => (Pt.Ow.at HO3.out i hi).1)
             have HO4 := hide o4
             have HB4 := hide hb4
             clear o4 g4 hb4)
          | (go_at_call 58; refine (Pt.join_any v4 L _ (Pt.Ow.vw HO4.out) HLS.out).mono ?_; rintro e u5 ⟨rfl, b5⟩
             have hb5 := HB4.out.trans (b5.mono HB4.out.size)
             have HB5 := hide hb5
             have HO5 := hide (Pt.Ow.below HO4.out b5)
             have HV5 := hide (HV2.out.below hb5)
             have hbx5 := (hb5.block _ HS2.out).trans HBX2.out
             have cc0 : u5.cell? ⟨w.heap.size, 0, none⟩ = some (.slice a n c) := by simp [World.cell?, hbx5]
             have cc1 : u5.cell? ⟨w.heap.size, 1, none⟩ = some (.bool d) := by simp [World.cell?, hbx5]
             clear b5 hb5 hbx5)
          | (go_at_call 73; refine (must_no _).mono ?_; rintro e u8 ⟨rfl, hu8⟩; rw [hu8]))
        exact ⟨rfl, left_err HP.out (grownBy_trans HG2.out (grown_of HB5.out _))⟩
      | false =>
        have hup2 : ¬ nm.toList = [46, 46] := fun e => by rw [(Pt.up_list nm).2 e] at hup; cases hup
        have hup3 : (nm.toList == [46, 46]) = false := by simp [hup2]
        by_cases hj : Pt.joE L = 0
        · have hj2 : (Pt.joE L == 0) = true := by simp [hj]
          cases hah : aheadB xs k nm with
          | false =>
            have HP : Hid (namesR xs k rest = .error 191) := by rw [hup, hah] at HP0; simpa [Hid] using HP0
            have HAH := hide hah
            clear hup hah
            go_enter Tryz.func90, Tryz.ntmps90
            go_wp2_with (first
              | (go_at_call 88; rw [HU0.out]; refine (whole_any B q 1 1 63 rest _ HR0.out hl (by omega) (by omega)).mono ?_; intro e u1 lf; rw [HW.out] at lf; obtain ⟨val, rfl, rfl, rd1, g1⟩ := lf; have HG1 := hide g1; have HR1 := hide rd1; have HV1 := hide (RdAt.vw HR0.out HV.out g1); have HBX1 := hide ((g1.block _ hsz0 (fun e => by have e' := Option.some.inj e; omega)).trans HBX.out); clear g1 rd1)
              | (go_at_call 70; refine (row_ok B q m r1 _ HR1.out hr1 ht).mono ?_; rintro e u2 ⟨b2, o2, c2, rfl, rs2, _, _, _, rd2, g2⟩; rw [HBS.out] at rs2; have hcv := conv (some ⟨b2, o2, none⟩) m c2 bs u2 rs2; rw [HNM.out] at hcv
                 have hs1 := (Array.getElem?_eq_some_iff.1 HBX1.out).1
                 have hbx2 := (g2.block _ hs1 (fun e => by have e' := Option.some.inj e; omega)).trans HBX1.out
                 have cc0 : u2.cell? ⟨w.heap.size, 0, none⟩ = some (.slice a n c) := by simp [World.cell?, hbx2]
                 have cc1 : u2.cell? ⟨w.heap.size, 1, none⟩ = some (.bool d) := by simp [World.cell?, hbx2]
                 have HR2 := hide rd2
                 have HV2 := hide (RdAt.vw HR1.out HV1.out g2)
                 have HG2 := hide (grownBy_trans (grownBy_trans HG0.out HG1.out) g2)
                 have hs2 := (Array.getElem?_eq_some_iff.1 hbx2).1
                 have HBX2 := hide hbx2
                 have HS2 := hide hs2
                 have HTK : Hid (Pt.RdS u2 a k (xs.take k)) := (by have h9 := HV2.out; rw [← HN.out] at h9; exact Pt.Vw.take h9 (by rw [HN.out]; exact hk))
                 clear rs2 rd2 g2 hbx2 hs1 hs2)
              | (go_at_call 105; refine (clone_any a k c (xs.take k) _ HTK.out (by omega)).mono ?_; rintro e u3 ⟨v3, rfl, o3, b3⟩
                 have HO3 := hide (Pt.Ow.below o3 (below_alloc u3 (.cells #[.string nm] 9)))
                 have HB3 := hide (b3.alloc b3.size (.cells #[.string nm] 9))
                 have HS3 := hide b3.size
                 clear o3 b3 cc0 cc1)
              | (at_builtin; refine wpList_append_rd rfl (.tmp 21) (.tmp 23) rfl u2.heap.size v3 (xs.take k) rfl HO3.out (some ⟨u3.heap.size, 0, none⟩) 1 [nm] rfl (row_new u3 nm) (by have := HN.out; simp; omega) (by have := HS3.out; simp; omega) ?_; intro v4 u4 o4 g4
                 rw [HLD.out] at o4
                 have hb4 := HB3.out.grown g4 (by have := HS3.out; simp; omega) (fun i hi => (Pt.Ow.at HO3.out i hi).1)
                 have HO4 := hide o4
                 have HB4 := hide hb4
                 clear o4 g4 hb4)
              | (go_at_call 58; refine (Pt.join_any v4 L _ (Pt.Ow.vw HO4.out) HLS.out).mono ?_; rintro e u5 ⟨rfl, b5⟩
                 have hb5 := HB4.out.trans (b5.mono HB4.out.size)
                 have HB5 := hide hb5
                 have HO5 := hide (Pt.Ow.below HO4.out b5)
                 have HV5 := hide (HV2.out.below hb5)
                 have hbx5 := (hb5.block _ HS2.out).trans HBX2.out
                 have cc0 : u5.cell? ⟨w.heap.size, 0, none⟩ = some (.slice a n c) := by simp [World.cell?, hbx5]
                 have cc1 : u5.cell? ⟨w.heap.size, 1, none⟩ = some (.bool d) := by simp [World.cell?, hbx5]
                 clear b5 hb5 hbx5)
              | (go_at_call 39; refine (isAhead_any (.slice a n c) xs d k nm _ HV5.out (by rw [HN.out]; exact hk) (by rw [HN.out]; omega)).mono ?_; rintro e u6 ⟨rfl, b6⟩; rw [HAH.out]; have HB6 := hide b6; clear b6)
              | (go_at_call 73; refine (must_no _).mono ?_; rintro e u8 ⟨rfl, hu8⟩; rw [hu8]))
            exact ⟨rfl, left_err HP.out (grownBy_trans (grownBy_trans HG2.out (grown_of HB5.out _)) (grown_of HB6.out _))⟩
          | true =>
            have HP : Hid (namesR xs k rest = .ok (L, r1.drop m)) := by rw [hup, hah, hj] at HP0; simpa [Hid] using HP0
            have HAH := hide hah
            clear hup hah
            go_enter Tryz.func90, Tryz.ntmps90
            go_wp2_with (first
              | (go_at_call 88; rw [HU0.out]; refine (whole_any B q 1 1 63 rest _ HR0.out hl (by omega) (by omega)).mono ?_; intro e u1 lf; rw [HW.out] at lf; obtain ⟨val, rfl, rfl, rd1, g1⟩ := lf; have HG1 := hide g1; have HR1 := hide rd1; have HV1 := hide (RdAt.vw HR0.out HV.out g1); have HBX1 := hide ((g1.block _ hsz0 (fun e => by have e' := Option.some.inj e; omega)).trans HBX.out); clear g1 rd1)
              | (go_at_call 70; refine (row_ok B q m r1 _ HR1.out hr1 ht).mono ?_; rintro e u2 ⟨b2, o2, c2, rfl, rs2, _, _, _, rd2, g2⟩; rw [HBS.out] at rs2; have hcv := conv (some ⟨b2, o2, none⟩) m c2 bs u2 rs2; rw [HNM.out] at hcv
                 have hs1 := (Array.getElem?_eq_some_iff.1 HBX1.out).1
                 have hbx2 := (g2.block _ hs1 (fun e => by have e' := Option.some.inj e; omega)).trans HBX1.out
                 have cc0 : u2.cell? ⟨w.heap.size, 0, none⟩ = some (.slice a n c) := by simp [World.cell?, hbx2]
                 have cc1 : u2.cell? ⟨w.heap.size, 1, none⟩ = some (.bool d) := by simp [World.cell?, hbx2]
                 have HR2 := hide rd2
                 have HV2 := hide (RdAt.vw HR1.out HV1.out g2)
                 have HG2 := hide (grownBy_trans (grownBy_trans HG0.out HG1.out) g2)
                 have hs2 := (Array.getElem?_eq_some_iff.1 hbx2).1
                 have HBX2 := hide hbx2
                 have HS2 := hide hs2
                 have HTK : Hid (Pt.RdS u2 a k (xs.take k)) := (by have h9 := HV2.out; rw [← HN.out] at h9; exact Pt.Vw.take h9 (by rw [HN.out]; exact hk))
                 clear rs2 rd2 g2 hbx2 hs1 hs2)
              | (go_at_call 105; refine (clone_any a k c (xs.take k) _ HTK.out (by omega)).mono ?_; rintro e u3 ⟨v3, rfl, o3, b3⟩
                 have HO3 := hide (Pt.Ow.below o3 (below_alloc u3 (.cells #[.string nm] 9)))
                 have HB3 := hide (b3.alloc b3.size (.cells #[.string nm] 9))
                 have HS3 := hide b3.size
                 clear o3 b3 cc0 cc1)
              | (at_builtin; refine wpList_append_rd rfl (.tmp 21) (.tmp 23) rfl u2.heap.size v3 (xs.take k) rfl HO3.out (some ⟨u3.heap.size, 0, none⟩) 1 [nm] rfl (row_new u3 nm) (by have := HN.out; simp; omega) (by have := HS3.out; simp; omega) ?_; intro v4 u4 o4 g4
                 rw [HLD.out] at o4
                 have hb4 := HB3.out.grown g4 (by have := HS3.out; simp; omega) (fun i hi => (Pt.Ow.at HO3.out i hi).1)
                 have HO4 := hide o4
                 have HB4 := hide hb4
                 clear o4 g4 hb4)
              | (go_at_call 58; refine (Pt.join_any v4 L _ (Pt.Ow.vw HO4.out) HLS.out).mono ?_; rintro e u5 ⟨rfl, b5⟩
                 have hb5 := HB4.out.trans (b5.mono HB4.out.size)
                 have HB5 := hide hb5
                 have HO5 := hide (Pt.Ow.below HO4.out b5)
                 have HV5 := hide (HV2.out.below hb5)
                 have hbx5 := (hb5.block _ HS2.out).trans HBX2.out
                 have cc0 : u5.cell? ⟨w.heap.size, 0, none⟩ = some (.slice a n c) := by simp [World.cell?, hbx5]
                 have cc1 : u5.cell? ⟨w.heap.size, 1, none⟩ = some (.bool d) := by simp [World.cell?, hbx5]
                 clear b5 hb5 hbx5)
              | (go_at_call 39; refine (isAhead_any (.slice a n c) xs d k nm _ HV5.out (by rw [HN.out]; exact hk) (by rw [HN.out]; omega)).mono ?_; rintro e u6 ⟨rfl, b6⟩; rw [HAH.out]; have HB6 := hide b6; clear b6)
              | (go_at_call 73; refine (must_yes _).mono ?_; rintro e u8 ⟨rfl, hu8⟩; rw [hu8]))
            go_ret2
            refine left_ok HP.out ?_ ((HR2.out.below HB5.out).below HB6.out) (grownBy_trans (grownBy_trans HG2.out (grown_of HB5.out _)) (grown_of HB6.out _))
            refine ⟨_, by rw [joS_ok hj]; rfl, ?_⟩
            exact ((HO5.out).below HB6.out).lower (by have := HG2.out.size; omega)
        · have hj2 : (Pt.joE L == 0) = false := by simp [hj]
          have HP : Hid (namesR xs k rest = .error 191) := by rw [hup] at HP0; simpa [Hid, hj] using HP0
          clear hup
          go_enter Tryz.func90, Tryz.ntmps90
          go_wp2_with (first
            | (go_at_call 88; rw [HU0.out]; refine (whole_any B q 1 1 63 rest _ HR0.out hl (by omega) (by omega)).mono ?_; intro e u1 lf; rw [HW.out] at lf; obtain ⟨val, rfl, rfl, rd1, g1⟩ := lf; have HG1 := hide g1; have HR1 := hide rd1; have HV1 := hide (RdAt.vw HR0.out HV.out g1); have HBX1 := hide ((g1.block _ hsz0 (fun e => by have e' := Option.some.inj e; omega)).trans HBX.out); clear g1 rd1)
            | (go_at_call 70; refine (row_ok B q m r1 _ HR1.out hr1 ht).mono ?_; rintro e u2 ⟨b2, o2, c2, rfl, rs2, _, _, _, rd2, g2⟩; rw [HBS.out] at rs2; have hcv := conv (some ⟨b2, o2, none⟩) m c2 bs u2 rs2; rw [HNM.out] at hcv
               have hs1 := (Array.getElem?_eq_some_iff.1 HBX1.out).1
               have hbx2 := (g2.block _ hs1 (fun e => by have e' := Option.some.inj e; omega)).trans HBX1.out
               have cc0 : u2.cell? ⟨w.heap.size, 0, none⟩ = some (.slice a n c) := by simp [World.cell?, hbx2]
               have cc1 : u2.cell? ⟨w.heap.size, 1, none⟩ = some (.bool d) := by simp [World.cell?, hbx2]
               have HR2 := hide rd2
               have HV2 := hide (RdAt.vw HR1.out HV1.out g2)
               have HG2 := hide (grownBy_trans (grownBy_trans HG0.out HG1.out) g2)
               have hs2 := (Array.getElem?_eq_some_iff.1 hbx2).1
               have HBX2 := hide hbx2
               have HS2 := hide hs2
               have HTK : Hid (Pt.RdS u2 a k (xs.take k)) := (by have h9 := HV2.out; rw [← HN.out] at h9; exact Pt.Vw.take h9 (by rw [HN.out]; exact hk))
               clear rs2 rd2 g2 hbx2 hs1 hs2)
            | (go_at_call 105; refine (clone_any a k c (xs.take k) _ HTK.out (by omega)).mono ?_; rintro e u3 ⟨v3, rfl, o3, b3⟩
               have HO3 := hide (Pt.Ow.below o3 (below_alloc u3 (.cells #[.string nm] 9)))
               have HB3 := hide (b3.alloc b3.size (.cells #[.string nm] 9))
               have HS3 := hide b3.size
               clear o3 b3 cc0 cc1)
            | (at_builtin; refine wpList_append_rd rfl (.tmp 21) (.tmp 23) rfl u2.heap.size v3 (xs.take k) rfl HO3.out (some ⟨u3.heap.size, 0, none⟩) 1 [nm] rfl (row_new u3 nm) (by have := HN.out; simp; omega) (by have := HS3.out; simp; omega) ?_; intro v4 u4 o4 g4
               rw [HLD.out] at o4
               have hb4 := HB3.out.grown g4 (by have := HS3.out; simp; omega) (fun i hi => (Pt.Ow.at HO3.out i hi).1)
               have HO4 := hide o4
               have HB4 := hide hb4
               clear o4 g4 hb4)
            | (go_at_call 58; refine (Pt.join_any v4 L _ (Pt.Ow.vw HO4.out) HLS.out).mono ?_; rintro e u5 ⟨rfl, b5⟩
               have hb5 := HB4.out.trans (b5.mono HB4.out.size)
               have HB5 := hide hb5
               have HO5 := hide (Pt.Ow.below HO4.out b5)
               have HV5 := hide (HV2.out.below hb5)
               have hbx5 := (hb5.block _ HS2.out).trans HBX2.out
               have cc0 : u5.cell? ⟨w.heap.size, 0, none⟩ = some (.slice a n c) := by simp [World.cell?, hbx5]
               have cc1 : u5.cell? ⟨w.heap.size, 1, none⟩ = some (.bool d) := by simp [World.cell?, hbx5]
               clear b5 hb5 hbx5)
            | (go_at_call 73; refine (must_no _).mono ?_; rintro e u8 ⟨rfl, hu8⟩; rw [hu8]))
          exact ⟨rfl, left_err HP.out (grownBy_trans HG2.out (grown_of HB5.out _))⟩
    · have HP : Hid (namesR xs k rest = .error 190) := by unfold Hid namesR; rw [hw]; simp only [Int.toNat_natCast, takeR, if_neg ht]
      clear hw
      go_enter Tryz.func90, Tryz.ntmps90
      go_wp2_with (first
        | (go_at_call 88; rw [HU0.out]; refine (whole_any B q 1 1 63 rest _ HR0.out hl (by omega) (by omega)).mono ?_; intro e u1 lf; rw [HW.out] at lf; obtain ⟨val, rfl, rfl, rd1, g1⟩ := lf; have HG1 := hide g1; have HR1 := hide rd1; clear g1 rd1)
        | (go_at_call 70; refine (row_short B q m r1 _ HR1.out hr1 (by omega) (by omega)).mono ?_; rintro e u2 ⟨rfl, hu2⟩; rw [hu2]))
      exact ⟨rfl, left_err HP.out (grownBy_trans HG0.out HG1.out)⟩
end Go.Proofs.YtdiifegljonojaaGreatDoor
