/-
  SEAT YtnjcjaaciphcgaaDoor: the reference's reader: a line's words.
-/
import Derived.Test.YtnjcjaaciphcgaaDoorWc
namespace Go.Proofs.YtnjcjaaciphcgaaDoor
open Go.RowKit Go.Sort
set_option linter.unusedVariables false

def strV (xs : List (List UInt8)) : List Value := xs.map fun x => Value.string ⟨x.toArray⟩
theorem strV_one (xs : List (List UInt8)) : ∀ u ∈ strV xs, u.oneCell' = true := by
  intro u hu
  obtain ⟨x, _, rfl⟩ := List.mem_map.1 hu
  rfl
theorem new_str (u : World) (z : List UInt8) : (u.alloc (.cells #[.string ⟨z.toArray⟩] 9)).cell? ⟨u.heap.size, 0, none⟩ = some (.string ⟨z.toArray⟩) := by
  have h9 := heap_alloc_new u (.cells #[.string ⟨z.toArray⟩] 9)
  simp only [World.cell?, h9]
  rfl
theorem wpList_append_S {w : World} {ops : Array Oper} {rest : List Oper} {o : Oper} {a : Act} {Q : Exit → Act → World → Prop} (hgd : o.guard = none) (s x : Operand)
    (ho : o.op = .call { callee := .builtin .append, args := #[s, x], argTypes := #[46, 46] })
    (base : Nat) (v : Value) (n : Nat) (xs : List (List UInt8)) (hs : a.eval s = v) (hown : w.ownsRow base 9 1 v n (strV xs))
    (b c : Nat) (z : List UInt8) (hx : a.eval x = .slice (some ⟨b, 0, none⟩) 1 c) (hrd : w.cell? ⟨b, 0, none⟩ = some (.string ⟨z.toArray⟩))
    (hb : n ≤ 4000000000000) (hbase : base ≤ w.heap.size)
    (h : ∀ v' w', w'.ownsRow base 9 1 v' (n + 1) (strV (xs ++ [z])) → w.grownBy w' v.ownBlock → wpList Tryd.prog ops Q rest (a.put o.dst v') w') : wpList Tryd.prog ops Q (o :: rest) a w := by
  obtain ⟨i0, hi, hz0, hz1, hz2⟩ := info_parts info9
  refine wpList_append_own w hgd s x 46 ho base 9 i0 (.string ⟨#[]⟩) 1 16 Tryd.underlying46 hi hz0 hz1 hz2 rfl (by decide) v n _ hs hown ⟨b, 0, none⟩ 1 c (strV [z]) hx rfl ?_ (strV_one _) (by simp [maxLen]; omega) (by omega) hbase ?_
  · intro j u hj
    match j, hj with
    | 0, hj =>
      have e : u = .string ⟨z.toArray⟩ := by simpa [strV] using hj.symm
      rw [e]
      exact hrd
    | j + 1, hj => simp [strV] at hj
  · intro v' w' h1 h2 _
    exact h v' w' (by unfold strV; rw [List.map_append]; exact h1) h2

theorem cut_free (l : List UInt8) : (10 : UInt8) ∉ (cutN l).1 := by
  induction l with
  | nil => simp [cutN]
  | cons b r ih =>
    unfold cutN
    split
    · simp
    · rename_i hb
      simp only [List.mem_cons, not_or]
      exact ⟨fun e => hb e.symm, ih⟩
theorem cut_all (s : List UInt8) : s = (cutN s).1 ∨ ∃ r, s = (cutN s).1 ++ 10 :: r := by
  cases h : (cutN s).2.2 with
  | true => exact Or.inr ⟨_, cut_join s h⟩
  | false =>
    rcases cut_index s with ⟨_, h2⟩ | ⟨i, _, _, h3⟩
    · left; rw [h2]
    · rw [h3] at h; cases h
theorem word_next {s : List UInt8} {st i : Nat} (h1 : st ≤ i) (h2 : i < s.length) : (s.drop st).take (i + 1 - st) = (s.drop st).take (i - st) ++ [s.getD i 0] := by
  have e : i + 1 - st = (i - st) + 1 := by omega
  have hlt : i - st < (s.drop st).length := by rw [List.length_drop]; omega
  rw [e, List.take_succ_eq_append_getElem hlt, List.getElem_drop, List.getD_eq_getElem?_getD, List.getElem?_eq_getElem h2]
  congr 3
  omega

set_option maxHeartbeats 4000000 in
set_option maxRecDepth 100000 in
theorem words_any (s : List UInt8) (w : World) (hl : s.length < 4294967281) :
    Calls Tryd.prog 25 #[.string ⟨s.toArray⟩] w fun e w' => ∃ v, e = .returned v ∧ w'.ownsRow w.heap.size 9 1 v (thL s).length (strV (thL s)) ∧ Below w.heap.size w w' := by
  obtain ⟨A, hA⟩ : ∃ A, (cutN s).1 = A := ⟨_, rfl⟩
  have HT : Hid (thL s = pp [] A) := by unfold Hid thL; rw [hA]
  have hfr := cut_free s
  have hall := cut_all s
  rw [hA] at hfr hall
  have hAl : A.length ≤ s.length := by rcases hall with h | ⟨r, h⟩ <;> (rw [h]; simp)
  have HF1 : Hid (∀ i, i < A.length → A.drop i = s.getD i 0 :: A.drop (i + 1) ∧ s.getD i 0 ≠ 10) := fun i hi => by
    have e : s.getD i 0 = A[i] := by
      rw [List.getD_eq_getElem?_getD]
      rcases hall with h | ⟨r, h⟩
      · rw [h, List.getElem?_eq_getElem hi]; rfl
      · rw [h, List.getElem?_append_left hi, List.getElem?_eq_getElem hi]; rfl
    rw [e]
    exact ⟨List.drop_eq_getElem_cons hi, fun h9 => hfr (by rw [← h9]; exact List.getElem_mem hi)⟩
  have HF2 : Hid (A.length < s.length → s.getD A.length 0 = 10) := fun hi => by
    rcases hall with h | ⟨r, h⟩
    · have := congrArg List.length h; omega
    · rw [h, List.getD_eq_getElem?_getD, List.getElem?_append_right (Nat.le_refl _), Nat.sub_self]; rfl
  clear hfr hall hA
  go_enter Tryd.func25, Tryd.ntmps25
  go_wp2_with fail
  go_loopw [3, 4, 5] (fun s3 s4 s5 wr => ∃ (i st n : Nat) (ws : List (List UInt8)) (v : Value), s5 = .int .i64 (i : Int) ∧ s4 = .int .i64 (st : Int) ∧ s3 = v ∧ i ≤ s.length + 1 ∧ n ≤ i ∧ Hid (ws.length = n) ∧ Hid (wr.ownsRow w.heap.size 9 1 v n (strV ws)) ∧ Hid (Below w.heap.size w wr) ∧ ((i ≤ A.length ∧ st ≤ i ∧ Hid (pp [] A = ws ++ pp ((s.drop st).take (i - st)) (A.drop i))) ∨ (i = s.length + 1 ∧ Hid (pp [] A = ws)))) (fun _ _ i _ => s.length + 1 - (RowKit.intOf i).toNat)
  case atStart => exact ⟨0, 0, 0, [], _, rfl, rfl, rfl, by omega, by omega, rfl, World.ownsRow_nil _ _ _ _, Below.refl _ _, Or.inl ⟨by omega, by omega, by simp [Hid]⟩⟩
  case round =>
    obtain ⟨i, st, n, ws, v, rfl, rfl, rfl, hi1, hni, HL, HO, HB, hcase⟩ := hrel
    rcases hcase with ⟨hiA, hst, HI⟩ | ⟨hi, HI⟩
    · have dle : (i : Int) ≤ (s.length : Int) := by omega
      have dst : (st : Int) ≤ (i : Int) := by omega
      obtain ⟨z, hz⟩ : ∃ z, (s.drop st).take (i - st) = z := ⟨_, rfl⟩
      have hex : (⟨s.toArray⟩ : ByteArray).extract st i = ⟨z.toArray⟩ := by rw [ext_list, hz]
      rw [hz] at HI
      have HL3 : Hid ((ws ++ [z]).length = n + 1) := by unfold Hid; rw [List.length_append, HL.out]; rfl
      by_cases hlt : i < A.length
      · obtain ⟨hd, hx10⟩ := HF1.out i hlt
        have hil : i < s.length := by omega
        have hwn := word_next hst hil
        obtain ⟨x, hx⟩ : ∃ x, s.getD i 0 = x := ⟨_, rfl⟩
        have hx2 : (⟨s.toArray⟩ : ByteArray)[i]'(by simpa [ByteArray.size] using hil) = x := by rw [← hx, List.getD_eq_getElem?_getD, List.getElem?_eq_getElem hil]; rfl
        have dlen : ((i : Int) == (s.length : Int)) = false := by rw [beq_eq_false_iff_ne]; omega
        have dlt : (i : Int) < (s.length : Int) := by omega
        rw [hz, hx] at hwn
        rw [hx] at hd hx10
        rw [hd] at HI
        have hb10 : ((x.toNat : Int) == 10) = false := by
          rw [beq_eq_false_iff_ne]
          intro e
          have h8 : x.toNat = (10 : UInt8).toNat := by have : (10 : UInt8).toNat = 10 := rfl
                                                       omega
          exact hx10 (UInt8.toNat_inj.1 h8)
        by_cases h32 : x = 32
        · subst h32
          have HI2 : Hid (pp [] A = (ws ++ [z]) ++ pp ((s.drop (i + 1)).take (i + 1 - (i + 1))) (A.drop (i + 1))) := by
            unfold Hid
            rw [HI.out, pp, if_pos rfl, Nat.sub_self, List.take_zero]
            simp
          have t32 : (((32 : UInt8).toNat : Int) == 32) = true := rfl
          clear HI hwn hd hx hx10 hz HF1 HF2 HT HL
          go_wp2_with (first
            | (at_builtin; refine wpList_append_S rfl (.tmp 28) (.tmp 33) rfl w.heap.size _ n ws rfl (HO.out.alloc _) wr.heap.size 1 z rfl (new_str wr z) (by omega) (by have := HB.out.size; simp; omega) ?_; intro v3 t3 own3 grow3
               have HO3 : Hid (t3.ownsRow w.heap.size 9 1 v3 (n + 1) (strV (ws ++ [z]))) := own3
               have HB3 : Hid (Below w.heap.size w t3) := (HB.out.alloc HB.out.size _).grown grow3 (by have := HB.out.size; simp; omega) (fun q hq => (HO.out.lt _ hq).1)
               clear own3 grow3))
          go_roundw
          case rel => exact ⟨i + 1, i + 1, n + 1, ws ++ [z], _, by go_num, by go_num, rfl, by omega, by omega, HL3.out, HO3.out, HB3.out, Or.inl ⟨by omega, by omega, HI2.out⟩⟩
          case measure => simp [RowKit.intOf]; omega
        · have hb32 : ((x.toNat : Int) == 32) = false := by
            rw [beq_eq_false_iff_ne]
            intro e
            have h8 : x.toNat = (32 : UInt8).toNat := by have : (32 : UInt8).toNat = 32 := rfl
                                                         omega
            exact h32 (UInt8.toNat_inj.1 h8)
          have HI2 : Hid (pp [] A = ws ++ pp ((s.drop st).take (i + 1 - st)) (A.drop (i + 1))) := by
            unfold Hid
            rw [HI.out, pp, if_neg h32, hwn]
          clear HI hwn hd hx hx10 hz HF1 HF2 HT
          go_wp2_with fail
          go_roundw
          case rel => exact ⟨i + 1, st, n, ws, _, by go_num, rfl, rfl, by omega, by omega, HL.out, HO.out, HB.out, Or.inl ⟨by omega, by omega, HI2.out⟩⟩
          case measure => simp [RowKit.intOf]; omega
      · have hiA2 : i = A.length := by omega
        have HI2 : Hid (pp [] A = ws ++ [z]) := by
          unfold Hid
          rw [HI.out, List.drop_of_length_le (by omega)]
          rfl
        by_cases hend : i = s.length
        · have dlen : ((i : Int) == (s.length : Int)) = true := by rw [beq_iff_eq]; omega
          have dlt : ¬ (i : Int) < (s.length : Int) := by omega
          have HEN : Hid (i = s.length) := hend
          clear HI HF1 HF2 HT hz HL hend hiA2
          go_wp2_with (first
            | (at_builtin; refine wpList_append_S rfl (.tmp 28) (.tmp 33) rfl w.heap.size _ n ws rfl (HO.out.alloc _) wr.heap.size 1 z rfl (new_str wr z) (by omega) (by have := HB.out.size; simp; omega) ?_; intro v3 t3 own3 grow3
               have HO3 : Hid (t3.ownsRow w.heap.size 9 1 v3 (n + 1) (strV (ws ++ [z]))) := own3
               have HB3 : Hid (Below w.heap.size w t3) := (HB.out.alloc HB.out.size _).grown grow3 (by have := HB.out.size; simp; omega) (fun q hq => (HO.out.lt _ hq).1)
               clear own3 grow3))
          go_roundw
          case rel => exact ⟨i + 1, i + 1, n + 1, ws ++ [z], _, by go_num, by go_num, rfl, by omega, by omega, HL3.out, HO3.out, HB3.out, Or.inr ⟨by have := HEN.out; omega, HI2.out⟩⟩
          case measure => simp [RowKit.intOf]; omega
        · have hil : i < s.length := by omega
          have hx : s.getD i 0 = 10 := by rw [hiA2]; exact HF2.out (by omega)
          have hx2 : (⟨s.toArray⟩ : ByteArray)[i]'(by simpa [ByteArray.size] using hil) = 10 := by rw [← hx, List.getD_eq_getElem?_getD, List.getElem?_eq_getElem hil]; rfl
          have dlen : ((i : Int) == (s.length : Int)) = false := by rw [beq_eq_false_iff_ne]; omega
          have dlt : (i : Int) < (s.length : Int) := by omega
          have t32 : (((10 : UInt8).toNat : Int) == 32) = false := rfl
          have t10 : (((10 : UInt8).toNat : Int) == 10) = true := rfl
          have HE : Hid (thL s = ws ++ [z]) := by unfold Hid; rw [HT.out]; exact HI2.out
          have HL2 : Hid ((thL s).length = n + 1) := by unfold Hid; rw [HE.out]; exact HL3.out
          clear HI HF1 HF2 HT hz HL hx HI2 HL3 hiA2 hend
          go_wp2_with (first
            | (at_builtin; refine wpList_append_S rfl (.tmp 28) (.tmp 33) rfl w.heap.size _ n ws rfl (HO.out.alloc _) wr.heap.size 1 z rfl (new_str wr z) (by omega) (by have := HB.out.size; simp; omega) ?_; intro v3 t3 own3 grow3
               have HO3 : Hid (t3.ownsRow w.heap.size 9 1 v3 (n + 1) (strV (ws ++ [z]))) := own3
               have HB3 : Hid (Below w.heap.size w t3) := (HB.out.alloc HB.out.size _).grown grow3 (by have := HB.out.size; simp; omega) (fun q hq => (HO.out.lt _ hq).1)
               clear own3 grow3))
          go_ret
          exact ⟨_, rfl, by rw [HL2.out, HE.out]; exact HO3.out, HB3.out⟩
    · have dle : ¬ (i : Int) ≤ (s.length : Int) := by omega
      have HE : Hid (thL s = ws) := by unfold Hid; rw [HT.out]; exact HI.out
      have HL2 : Hid ((thL s).length = n) := by unfold Hid; rw [HE.out]; exact HL.out
      clear HI HF1 HF2 HT
      go_wp2_with fail
      go_ret
      exact ⟨_, rfl, by rw [HL2.out, HE.out]; exact HO.out, HB.out⟩

end Go.Proofs.YtnjcjaaciphcgaaDoor
