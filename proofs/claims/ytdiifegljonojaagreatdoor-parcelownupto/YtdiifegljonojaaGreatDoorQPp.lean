/-
  SEAT YtdiifegljonojaaGreatDoor: a path's names, over lists.
-/
import Derived.Lib.SplitLaws
import Derived.Lib.Strings
namespace Go.Proofs.YtdiifegljonojaaGreatDoor.Pt
set_option linter.unusedVariables false

/-- The pieces between the slashes, behind a word that is under way. -/
def pp (word : List UInt8) : List UInt8 → List (List UInt8)
  | [] => [word]
  | b :: r => if b = 47 then word :: pp [] r else pp (word ++ [b]) r

theorem pp_free {a : List UInt8} (h : (47 : UInt8) ∉ a) : ∀ word, pp word a = [word ++ a] := by
  induction a with
  | nil => intro word; simp [pp]
  | cons b r ih =>
    intro word
    simp only [List.mem_cons, not_or] at h
    rw [pp, if_neg (fun e => h.1 e.symm), ih h.2]
    simp
theorem pp_hit {a : List UInt8} (h : (47 : UInt8) ∉ a) (r : List UInt8) : ∀ word, pp word (a ++ 47 :: r) = (word ++ a) :: pp [] r := by
  induction a with
  | nil => intro word; simp [pp]
  | cons b t ih =>
    intro word
    simp only [List.mem_cons, not_or] at h
    rw [List.cons_append, pp, if_neg (fun e => h.1 e.symm), ih h.2]
    simp

/-- Where the first slash stands. -/
theorem index_slash (s : List UInt8) : (Lib.index s [47] = -1 ∧ (47 : UInt8) ∉ s) ∨ ∃ i : Nat, Lib.index s [47] = i ∧ i < s.length ∧ (47 : UInt8) ∉ s.take i ∧ s = s.take i ++ 47 :: s.drop (i + 1) := by
  induction s with
  | nil => left; simp [Lib.index]
  | cons b l ih =>
    by_cases hb : b = 47
    · subst hb
      right
      exact ⟨0, by simp [Lib.index, List.isPrefixOf], by simp, by simp, by simp⟩
    · have hp : ([47] : List UInt8).isPrefixOf (b :: l) = false := by simp [List.isPrefixOf, Ne.symm hb]
      have hix : Lib.index (b :: l) [47] = if Lib.index l [47] == -1 then -1 else Lib.index l [47] + 1 := by rw [Lib.index, hp]; simp
      rcases ih with ⟨h1, h2⟩ | ⟨i, h1, h2, h3, h4⟩
      · left
        refine ⟨by rw [hix, h1]; rfl, ?_⟩
        simp only [List.mem_cons, not_or]
        exact ⟨fun e => hb e.symm, h2⟩
      · right
        refine ⟨i + 1, ?_, by simpa using h2, ?_, ?_⟩
        · rw [hix, h1, if_neg (by rw [beq_iff_eq]; omega)]; omega
        · simp only [List.take_succ_cons, List.mem_cons, not_or]
          exact ⟨fun e => hb e.symm, h3⟩
        · simp only [List.take_succ_cons, List.drop_succ_cons, List.cons_append]
          rw [← h4]

theorem splitK_pp : ∀ (k : Nat) (s : List UInt8), s.count 47 = k → Lib.splitK [47] 0 k s = pp [] s
  | 0, s, h => by
    have hn : (47 : UInt8) ∉ s := List.count_eq_zero.1 h
    rw [pp_free hn]; rfl
  | k + 1, s, h => by
    rcases index_slash s with ⟨_, h2⟩ | ⟨i, h1, h2, h3, h4⟩
    · rw [List.count_eq_zero.2 h2] at h; omega
    · have hc : (s.drop (i + 1)).count 47 = k := by
        rw [h4, List.count_append, List.count_eq_zero.2 h3, List.count_cons_self] at h
        omega
      have e : pp [] s = s.take i :: pp [] (s.drop (i + 1)) := by
        conv => lhs; rw [h4]
        rw [pp_hit h3]; rfl
      rw [Lib.splitK, if_neg (by rw [h1, beq_iff_eq]; omega), h1, e, ← splitK_pp k _ hc]
      rfl

/-- No name: it leads nowhere else. -/
def noB (x : ByteArray) : Bool := decide (x.data.toList = []) || decide (x.data.toList = [46])
def noL (x : List UInt8) : Bool := decide (x = []) || decide (x = [46])
def byteOf (l : List UInt8) : ByteArray := ⟨l.toArray⟩
theorem byteOf_data (x : ByteArray) : byteOf x.data.toList = x := by cases x; rfl
theorem data_byteOf (l : List UInt8) : (byteOf l).data.toList = l := rfl
theorem byteOf_size (l : List UInt8) : (byteOf l).size = l.length := rfl
theorem noB_of (l : List UInt8) : noB (byteOf l) = noL l := rfl

/-- The names of a path. -/
def nmL (s : List UInt8) : List (List UInt8) := (pp [] s).filter fun x => !noL x
def nm (s : ByteArray) : List ByteArray := (nmL s.data.toList).map byteOf

theorem pieces_pp (s : ByteArray) : Lib.splitB ⟨#[47]⟩ 0 (Lib.countB s ⟨#[47]⟩) s = (pp [] s.data.toList).map byteOf := by
  have h := Lib.splitB_data ⟨#[47]⟩ 0 (Lib.countB s ⟨#[47]⟩) s
  have hc : Lib.countB s ⟨#[47]⟩ = s.data.toList.count 47 := Lib.count_one 47 s.data.toList
  have e : Lib.splitK (⟨#[47]⟩ : ByteArray).data.toList 0 (Lib.countB s ⟨#[47]⟩) s.data.toList = pp [] s.data.toList := by
    rw [hc]; exact splitK_pp _ _ rfl
  rw [e] at h
  rw [← h, List.map_map]
  conv => lhs; rw [← List.map_id (Lib.splitB _ _ _ _)]
  exact List.map_congr_left fun x _ => (byteOf_data x).symm
theorem pieces_nm (s : ByteArray) : ((Lib.splitB ⟨#[47]⟩ 0 (Lib.countB s ⟨#[47]⟩) s).filter fun x => !noB x) = nm s := by
  rw [pieces_pp, List.filter_map]; rfl

theorem pp_len : ∀ (s word : List UInt8), (pp word s).length ≤ s.length + 1
  | [], word => by simp [pp]
  | b :: r, word => by
    rw [pp]
    split
    · have := pp_len r []; simp; omega
    · have := pp_len r (word ++ [b]); simp; omega
theorem nm_len (s : ByteArray) : (nm s).length ≤ s.size + 1 := by
  have h1 := pp_len s.data.toList []
  have h2 := List.length_filter_le (fun x => !noL x) (pp [] s.data.toList)
  have h3 : s.size = s.data.toList.length := Lib.size_eq s
  simp only [nm, nmL, List.length_map]
  omega
theorem pp_mem : ∀ (s word x : List UInt8), x ∈ pp word s → x.length ≤ word.length + s.length
  | [], word, x, h => by simp [pp] at h; subst h; simp
  | b :: r, word, x, h => by
    rw [pp] at h
    split at h
    · rcases List.mem_cons.1 h with rfl | h
      · simp
      · have := pp_mem r [] x h; simp at this ⊢; omega
    · have := pp_mem r (word ++ [b]) x h; simp at this ⊢; omega
theorem nm_mem_size {s x : ByteArray} (h : x ∈ nm s) : x.size ≤ s.size := by
  simp only [nm, nmL, List.mem_map] at h
  obtain ⟨l, hl, rfl⟩ := h
  have := pp_mem _ _ _ (List.mem_filter.1 hl).1
  rw [byteOf_size, Lib.size_eq s]
  simpa using this
theorem nm_mem_no {s x : ByteArray} (h : x ∈ nm s) : noB x = false := by
  simp only [nm, nmL, List.mem_map] at h
  obtain ⟨l, hl, rfl⟩ := h
  have := (List.mem_filter.1 hl).2
  rw [noB_of]; simpa using this
theorem pp_sub : ∀ (s word x : List UInt8) (c : UInt8), x ∈ pp word s → c ∈ x → c ∈ word ∨ c ∈ s
  | [], word, x, c, h, hc => by simp [pp] at h; subst h; exact Or.inl hc
  | b :: r, word, x, c, h, hc => by
    rw [pp] at h
    split at h
    · rcases List.mem_cons.1 h with rfl | h
      · exact Or.inl hc
      · rcases pp_sub r [] x c h hc with h | h
        · cases h
        · exact Or.inr (List.mem_cons_of_mem _ h)
    · rcases pp_sub r (word ++ [b]) x c h hc with h | h
      · rcases List.mem_append.1 h with h | h
        · exact Or.inl h
        · exact Or.inr (by rw [List.mem_singleton] at h; subst h; exact List.mem_cons_self ..)
      · exact Or.inr (List.mem_cons_of_mem _ h)
theorem pp_slash : ∀ (s word x : List UInt8), (47 : UInt8) ∉ word → x ∈ pp word s → (47 : UInt8) ∉ x
  | [], word, x, hw, h => by simp [pp] at h; subst h; exact hw
  | b :: r, word, x, hw, h => by
    rw [pp] at h
    split at h
    · rcases List.mem_cons.1 h with rfl | h
      · exact hw
      · exact pp_slash r [] x (by simp) h
    · rename_i hb
      exact pp_slash r (word ++ [b]) x (by simp only [List.mem_append, List.mem_singleton, not_or]; exact ⟨hw, fun e => hb e.symm⟩) h
theorem nm_slash {s x : ByteArray} (h : x ∈ nm s) : (47 : UInt8) ∉ x.data.toList := by
  simp only [nm, nmL, List.mem_map] at h
  obtain ⟨l, hl, rfl⟩ := h
  exact pp_slash _ _ _ (by simp) (List.mem_filter.1 hl).1
theorem nm_zero {s x : ByteArray} (h : x ∈ nm s) (h0 : (0 : UInt8) ∉ s.data.toList) : (0 : UInt8) ∉ x.data.toList := by
  simp only [nm, nmL, List.mem_map] at h
  obtain ⟨l, hl, rfl⟩ := h
  intro hc
  rcases pp_sub _ _ _ _ (List.mem_filter.1 hl).1 hc with h | h
  · cases h
  · exact h0 h

/-- Does a path begin as it must? -/
def begB (s : ByteArray) : Bool := s.data.toList.head? == some 47
def zeroB (s : ByteArray) : Bool := decide ((0 : UInt8) ∈ s.data.toList)
def longB (x : ByteArray) : Bool := decide (63 < x.size)
def upB (x : ByteArray) : Bool := decide (x.data.toList = [46, 46])
/-- The error of the names of a text that begins with a slash. -/
def nmE (s : ByteArray) : Int := if zeroB s then 160 else if 1023 < s.size then 161 else if 64 < (nm s).length then 161 else if (nm s).any longB then 161 else 0
def spE (s : ByteArray) : Int := if begB s then nmE s else 160
def spN (s : ByteArray) : List ByteArray := if spE s = 0 then nm s else []
def nmN (s : ByteArray) : List ByteArray := if nmE s = 0 then nm s else []

end Go.Proofs.YtdiifegljonojaaGreatDoor.Pt
