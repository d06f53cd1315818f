/-
  SEAT YtnjcjaaciphcgaaDoor: a text's lines, a line's things.
-/
import Derived.Test.YtnjcjaaciphcgaaDoorUc
import Derived.Test.YtnjcjaaciphcgaaDoorShelg
import Derived.Lib.SplitLaws
import Derived.Lib.Bytealg
namespace Go.Proofs.YtnjcjaaciphcgaaDoor
open Go.RowKit Go.Sort
set_option linter.unusedVariables false

/-- The pieces between the blanks, behind a word that is under way. -/
def pp (word : List UInt8) : List UInt8 → List (List UInt8)
  | [] => [word]
  | b :: r => if b = 32 then word :: pp [] r else pp (word ++ [b]) r

theorem pp_free {a : List UInt8} (h : (32 : UInt8) ∉ a) : ∀ word, pp word a = [word ++ a] := by
  induction a with
  | nil => intro word; simp [pp]
  | cons b r ih =>
    intro word
    simp only [List.mem_cons, not_or] at h
    rw [pp, if_neg (fun e => h.1 e.symm), ih h.2]
    simp
theorem pp_hit {a : List UInt8} (h : (32 : UInt8) ∉ a) (r : List UInt8) : ∀ word, pp word (a ++ 32 :: r) = (word ++ a) :: pp [] r := by
  induction a with
  | nil => intro word; simp [pp]
  | cons b t ih =>
    intro word
    simp only [List.mem_cons, not_or] at h
    rw [List.cons_append, pp, if_neg (fun e => h.1 e.symm), ih h.2]
    simp

/-- Where the first blank stands. -/
theorem index_blank (s : List UInt8) : (Lib.index s [32] = -1 ∧ (32 : UInt8) ∉ s) ∨ ∃ i : Nat, Lib.index s [32] = i ∧ i < s.length ∧ (32 : UInt8) ∉ s.take i ∧ s = s.take i ++ 32 :: s.drop (i + 1) := by
  induction s with
  | nil => left; simp [Lib.index]
  | cons b l ih =>
    by_cases hb : b = 32
    · subst hb
      right
      exact ⟨0, by simp [Lib.index, List.isPrefixOf], by simp, by simp, by simp⟩
    · have hp : ([32] : List UInt8).isPrefixOf (b :: l) = false := by simp [List.isPrefixOf, Ne.symm hb]
      have hix : Lib.index (b :: l) [32] = if Lib.index l [32] == -1 then -1 else Lib.index l [32] + 1 := by rw [Lib.index, hp]; simp
      rcases ih with ⟨h1, h2⟩ | ⟨i, h1, h2, h3, h4⟩
      · left
        refine ⟨by rw [hix, h1]; rfl, ?_⟩
        simp only [List.mem_cons, not_or]
        exact ⟨fun e => hb e.symm, h2⟩
      · right
        refine ⟨i + 1, ?_, by simpa using h2, ?_, ?_⟩
        · rw [hix, h1, if_neg (by rw [beq_iff_eq]; omega)]; omega
        · simp only [List.take_succ_cons, List.mem_cons, not_or]
          exact ⟨fun e => hb e.symm, h3⟩
        · simp only [List.take_succ_cons, List.drop_succ_cons, List.cons_append]
          rw [← h4]

theorem splitK_pp : ∀ (k : Nat) (s : List UInt8), s.count 32 = k → Lib.splitK [32] 0 k s = pp [] s
  | 0, s, h => by
    have hn : (32 : UInt8) ∉ s := List.count_eq_zero.1 h
    rw [pp_free hn]; rfl
  | k + 1, s, h => by
    rcases index_blank s with ⟨_, h2⟩ | ⟨i, h1, h2, h3, h4⟩
    · rw [List.count_eq_zero.2 h2] at h; omega
    · have hc : (s.drop (i + 1)).count 32 = k := by
        rw [h4, List.count_append, List.count_eq_zero.2 h3, List.count_cons_self] at h
        omega
      have e : pp [] s = s.take i :: pp [] (s.drop (i + 1)) := by
        conv => lhs; rw [h4]
        rw [pp_hit h3]; rfl
      rw [Lib.splitK, if_neg (by rw [h1, beq_iff_eq]; omega), h1, e, ← splitK_pp k _ hc]
      rfl


def byteOf (l : List UInt8) : ByteArray := ⟨l.toArray⟩
theorem byteOf_data (x : ByteArray) : byteOf x.data.toList = x := by cases x; rfl
theorem pieces_pp (s : ByteArray) : Lib.splitB ⟨#[32]⟩ 0 (Lib.countB s ⟨#[32]⟩) s = (pp [] s.data.toList).map byteOf := by
  have h := Lib.splitB_data ⟨#[32]⟩ 0 (Lib.countB s ⟨#[32]⟩) s
  have hc : Lib.countB s ⟨#[32]⟩ = s.data.toList.count 32 := Lib.count_one 32 s.data.toList
  have e : Lib.splitK (⟨#[32]⟩ : ByteArray).data.toList 0 (Lib.countB s ⟨#[32]⟩) s.data.toList = pp [] s.data.toList := by
    rw [hc]; exact splitK_pp _ _ rfl
  rw [e] at h
  rw [← h, List.map_map]
  conv => lhs; rw [← List.map_id (Lib.splitB _ _ _ _)]
  exact List.map_congr_left fun x _ => (byteOf_data x).symm

theorem index_one (c : UInt8) : ∀ s : List UInt8, Lib.index s [c] = Lib.indexByte s c
  | [] => rfl
  | b :: l => by
    rw [Lib.index, Lib.indexByte, index_one c l]
    simp only [List.isPrefixOf, Bool.and_true]
    by_cases h : b = c
    · subst h; simp
    · have h1 : (c == b) = false := by simpa using fun e : c = b => h e.symm
      have h2 : (b == c) = false := by simpa using h
      rw [h1, h2]
theorem info9 : (Tryd.prog.info? 9).map (fun i => (i.zero, i.size, i.bytes)) = some (some (.string ⟨#[]⟩), 1, 16) := by kernel_rfl

theorem split_any (l : List UInt8) (w : World) (hs : l.length < 4294967281) :
    Calls Tryd.prog 64 #[.string ⟨l.toArray⟩, .string ⟨#[32]⟩] w fun e w' =>
      e = .returned (.slice (some ⟨w.heap.size, 0, none⟩) (pp [] l).length (pp [] l).length) ∧ w' = w.alloc (.cells ((pp [] l).map fun x => Value.string ⟨x.toArray⟩).toArray 9) := by
  have h1 : 1 ≤ (⟨#[32]⟩ : ByteArray).size := by decide
  have hle := Lib.countB_le ⟨#[32]⟩ h1 (⟨l.toArray⟩ : ByteArray).size ⟨l.toArray⟩ (Nat.le_refl _)
  have hlen := Lib.splitB_all ⟨#[32]⟩ h1 0 _ (⟨l.toArray⟩ : ByteArray) rfl
  have hpc := pieces_pp ⟨l.toArray⟩
  have c := Any.strings_genSplit_core Tryd.lays221 info9 ⟨l.toArray⟩ ⟨#[32]⟩ 0 (-1) (Lib.countB ⟨l.toArray⟩ ⟨#[32]⟩ + 1) w hs h1 (Nat.zero_le _)
    (fun x c hx => (Any.strings_Index_one Tryd.lays143 x 32 _).mono fun e w' ⟨he, hw⟩ => ⟨by rw [he, ← index_one], hw⟩)
    ((Any.strings_Count_one Tryd.lays138 ⟨l.toArray⟩ 32 w).mono fun e w' ⟨he, hw⟩ => ⟨by rw [he]; congr 2; exact congrArg Int.ofNat (Lib.count_one 32 _).symm, hw⟩)
    (by decide) (by decide) (by rw [if_pos (by decide)]; omega)
  rw [Nat.add_sub_cancel, hlen] at c
  have e2 : Lib.cellsOf (Lib.splitB ⟨#[32]⟩ 0 (Lib.countB ⟨l.toArray⟩ ⟨#[32]⟩) ⟨l.toArray⟩) (Lib.countB ⟨l.toArray⟩ ⟨#[32]⟩ + 1) = ((Lib.splitB ⟨#[32]⟩ 0 (Lib.countB ⟨l.toArray⟩ ⟨#[32]⟩) ⟨l.toArray⟩).map Value.string).toArray := by rw [← hlen]; exact Lib.cellsOf_full _
  have e3 : Lib.countB ⟨l.toArray⟩ ⟨#[32]⟩ + 1 = (pp [] l).length := by rw [← hlen, hpc]; simp
  rw [e2, hpc, e3, List.map_map] at c
  go_enter Tryd.func64, Tryd.ntmps64
  go_wp2_with (go_at_call 75; refine c.mono ?_; rintro e w' ⟨rfl, hw⟩; rw [hw])
  go_ret
  exact ⟨rfl, rfl⟩

/-- What stands ahead of the first byte 10, what behind it, and whether there is one. -/
def cutN : List UInt8 → List UInt8 × List UInt8 × Bool
  | [] => ([], [], false)
  | b :: r => if b = 10 then ([], r, true) else (b :: (cutN r).1, (cutN r).2)
theorem cut_index (l : List UInt8) : (Lib.indexByte l 10 = -1 ∧ cutN l = (l, [], false)) ∨ ∃ i : Nat, Lib.indexByte l 10 = (i : Int) ∧ i < l.length ∧ cutN l = (l.take i, l.drop (i + 1), true) := by
  induction l with
  | nil => exact Or.inl ⟨rfl, rfl⟩
  | cons b r ih =>
    unfold Lib.indexByte cutN
    by_cases hb : b = 10
    · right
      refine ⟨0, by simp [hb], by simp, by simp [hb]⟩
    · rw [if_neg hb]
      rcases ih with ⟨h1, h2⟩ | ⟨i, h1, h2, h3⟩
      · left
        rw [h2]
        refine ⟨?_, rfl⟩
        simp [hb, h1]
      · right
        rw [h3]
        refine ⟨i + 1, ?_, by simpa using h2, by simp⟩
        simp [hb, h1]

theorem ext_list (l : List UInt8) (a b : Nat) : (⟨l.toArray⟩ : ByteArray).extract a b = ⟨((l.drop a).take (b - a)).toArray⟩ := by
  apply ByteArray.ext
  rw [ByteArray.data_extract]
  simp

set_option maxRecDepth 100000 in
theorem cut_in (l : List UInt8) (w : World) (hs : l.length < 4294967281) :
    Calls Tryd.prog 74 #[.string ⟨l.toArray⟩, .string ⟨#[10]⟩] w fun e w' => e = .returned (.tuple #[.string ⟨(cutN l).1.toArray⟩, .string ⟨(cutN l).2.1.toArray⟩, .bool (cutN l).2.2]) ∧ Below w.heap.size w w' := by
  have HI := Tryd.stringslite_Index_one ⟨l.toArray⟩ 10 w
  rcases cut_index l with ⟨h1, h2⟩ | ⟨i, h1, h2, h3⟩
  · have HI2 : Calls Tryd.prog 79 #[.string ⟨l.toArray⟩, .string ⟨#[10]⟩] w fun e w' => e = .returned (.int .i64 (-1)) ∧ w' = w := by rw [← h1]; exact HI
    have HC : Hid (cutN l = (l, [], false)) := h2
    clear HI h1 h2
    go_enter Tryd.func74, Tryd.ntmps74
    go_wp2_with (go_at_call 79; refine HI2.mono ?_; rintro e t1 ⟨rfl, ht⟩; rw [ht]; clear ht)
    refine bodyPost_ret (v := .tuple #[.string ⟨l.toArray⟩, .string ⟨#[]⟩, .bool false]) (by simp [results, Tryd.results74, go_sem]) rfl ⟨by rw [HC.out], Below.refl _ _⟩
  · have HI2 : Calls Tryd.prog 79 #[.string ⟨l.toArray⟩, .string ⟨#[10]⟩] w fun e w' => e = .returned (.int .i64 (i : Int)) ∧ w' = w := by rw [← h1]; exact HI
    have HC : Hid (cutN l = (l.take i, l.drop (i + 1), true)) := h3
    clear HI h1 h3
    go_enter Tryd.func74, Tryd.ntmps74
    go_wp2_with (go_at_call 79; refine HI2.mono ?_; rintro e t1 ⟨rfl, ht⟩; rw [ht]; clear ht)
    have d1 : (i : Int) ≤ (l.length : Int) := by omega
    have d2 : (i : Int) + 1 ≤ (l.length : Int) := by omega
    go_quiet (fail)
    go_wp2
    refine bodyPost_ret (v := .tuple #[.string ((⟨l.toArray⟩ : ByteArray).extract 0 i), .string ((⟨l.toArray⟩ : ByteArray).extract (i + 1) l.length), .bool true]) (by simp [results, Tryd.results74, go_sem]) rfl ⟨?_, below_drewN (Below.refl _ _) _⟩
    rw [HC.out, ext_list, ext_list, Nat.sub_zero, List.drop_zero, List.take_of_length_le (l := l.drop (i + 1)) (by rw [List.length_drop]; omega)]

theorem cut_any (l : List UInt8) (w : World) (hs : l.length < 4294967281) :
    Calls Tryd.prog 63 #[.string ⟨l.toArray⟩, .string ⟨#[10]⟩] w fun e w' => e = .returned (.tuple #[.string ⟨(cutN l).1.toArray⟩, .string ⟨(cutN l).2.1.toArray⟩, .bool (cutN l).2.2]) ∧ Below w.heap.size w w' := by
  obtain ⟨⟨A, B, C⟩, hc⟩ : ∃ x, cutN l = x := ⟨_, rfl⟩
  have HI := cut_in l w hs
  rw [hc] at HI ⊢
  go_enter Tryd.func63, Tryd.ntmps63
  go_wp2_with (go_at_call 74; refine HI.mono ?_; rintro e t1 ⟨rfl, bl⟩)
  exact bodyPost_ret (v := .tuple #[.string ⟨A.toArray⟩, .string ⟨B.toArray⟩, .bool C]) (by simp [results, Tryd.results63, go_sem]) rfl ⟨rfl, bl⟩

end Go.Proofs.YtnjcjaaciphcgaaDoor
