/-
  SEAT Ytoaahellfflooaa.
-/
import Derived.Laws.AppendOwnNone
import Derived.Deep.QuietTactic
import Derived.Laws.BytesArg
import Derived.Test.YtoaahellfflooaaVChkB
namespace Go.Proofs.Ytoaahellfflooaa
open Go.RowKit
set_option linter.unusedVariables false

def Reads (w : World) (a : Option Addr) (len : Nat) (zs : List Int) : Prop :=
  zs.length = len ∧ (∀ n ∈ zs, 0 ≤ n ∧ n ≤ 255) ∧ (a = none → len = 0) ∧ ∀ x, a = some x → ∀ i, i < len → w.cell? (x.add i) = some (.int .u8 (zs.getD i 0))

def Own (w : World) (B g n cap : Nat) (xs : List Int) : Prop :=
  w.ownsRow B 5 1 (.slice (some ⟨g, 0, none⟩) n cap) n (xs.map (Value.int .u8))

theorem info5 : (Try.prog.info? 5).map (fun i => (i.zero, i.size, i.bytes)) = some (some (.int .u8 0), 1, 1) := by kernel_rfl

theorem Reads.news {w : World} {x : Addr} {len : Nat} {zs : List Int} (h : Reads w (some x) len zs) : ∀ j u, (zs.map (Value.int .u8))[j]? = some u → w.cell? (x.add j) = some u := by
  intro j u hj
  obtain ⟨hl, _, _, hc⟩ := h
  rw [List.getElem?_map] at hj
  cases hz : zs[j]? with
  | none => rw [hz] at hj; simp at hj
  | some q =>
    rw [hz] at hj
    simp at hj
    have hlt : j < zs.length := by
      rcases Nat.lt_or_ge j zs.length with h | h
      · exact h
      · rw [List.getElem?_eq_none h] at hz; simp at hz
    rw [hc x rfl j (by omega), ← hj]
    simp [List.getD, hz]

theorem Reads.below {w w' : World} {a : Option Addr} {len : Nat} {zs : List Int} (h : Reads w a len zs) (hb : Below w.heap.size w w') : Reads w' a len zs := by
  obtain ⟨hl, hr, hn, hc⟩ := h
  refine ⟨hl, hr, hn, fun x hx i hi => ?_⟩
  have h1 := hc x hx i hi
  rw [hb.cell (block_lt_of_cell h1)]
  exact h1

theorem own_shape {w : World} {B n : Nat} {v : Value} {xs : List Value} (h : w.ownsRow B 5 1 v n xs) (hn : 0 < n) : ∃ g cap, v = .slice (some ⟨g, 0, none⟩) n cap ∧ n ≤ cap ∧ cap ≤ maxLen ∧ B ≤ g ∧ g < w.heap.size := by
  rcases h.2 with ⟨_, h0⟩ | ⟨g, cap, cur, hv, hb, hg, hnc, hcm, _⟩
  · omega
  · refine ⟨g, cap, hv, hnc, hcm, hb, ?_⟩
    rcases Nat.lt_or_ge g w.heap.size with h | h
    · exact h
    · simp [Array.getElem?_eq_none h] at hg

theorem plain_add (b off j : Nat) : (⟨b, off, none⟩ : Addr).add j = ⟨b, off + j, none⟩ := by unfold Addr.add; split <;> simp_all

theorem Reads.pos {w : World} {a : Option Addr} {len : Nat} {zs : List Int} (h : Reads w a len zs) (hp : 0 < len) :
    ∃ b off, a = some ⟨b, off, none⟩ ∧ b < w.heap.size ∧ ∀ i, i < len → w.cell? ⟨b, off + i, none⟩ = some (.int .u8 (zs.getD i 0)) := by
  obtain ⟨hl, _, hn, hc⟩ := h
  cases a with
  | none => have := hn rfl; omega
  | some x =>
    obtain ⟨b, off, spot⟩ := x
    have h0 := hc _ rfl 0 hp
    have hspot : spot = none := by simpa [Addr.add] using World.cell?_spot h0
    subst hspot
    refine ⟨b, off, rfl, by simpa [Addr.add] using block_lt_of_cell h0, fun i hi => ?_⟩
    have h1 := hc _ rfl i hi
    rw [plain_add] at h1
    exact h1

theorem take_map_snoc (zs : List Int) (k : Nat) (h : k < zs.length) : (zs.take k).map (Value.int .u8) ++ [Value.int .u8 (zs.getD k 0)] = (zs.take (k + 1)).map (Value.int .u8) := by
  rw [List.take_succ_eq_append_getElem h]
  rw [List.map_append]
  congr 1
  simp [List.getD, List.getElem?_eq_getElem h]

theorem news_one (w : World) (z : Int) : ∀ j u, [Value.int .u8 z][j]? = some u → (w.alloc (.cells #[.int .u8 z] 5)).cell? ((⟨w.heap.size, 0, none⟩ : Addr).add j) = some u := by
  intro j u hj
  match j, hj with
  | 0, hj => simp at hj; subst hj; simp [Addr.add]

theorem Own.set {w : World} {B g n cap : Nat} {xs : List Int} (h : Own w B g n cap xs) (j : Nat) (z : Int) : Own (w.setCell ⟨g, j, none⟩ (.int .u8 z)) B g n cap (xs.set j z) ∧ w.grownBy (w.setCell ⟨g, j, none⟩ (.int .u8 z)) (some g) := by
  unfold Own at *
  rw [List.map_set]
  exact World.ownsRow.stored h j (.int .u8 z)

theorem Own.len {w : World} {B g n cap : Nat} {xs : List Int} (h : Own w B g n cap xs) : xs.length = n := by
  have := h.1
  simpa using this

theorem Own.cell {w : World} {B g n cap : Nat} {xs : List Int} (h : Own w B g n cap xs) (j : Nat) (hj : j < n) : w.cell? ⟨g, j, none⟩ = some (.int .u8 (xs.getD j 0)) := by
  have hl := h.len
  have h1 := World.ownsRow.cellAt h j (by omega)
  rw [h1, List.getElem?_map, List.getElem?_eq_getElem (by omega)]
  simp [List.getD, List.getElem?_eq_getElem (show j < xs.length by omega)]

theorem conv (a : Option Addr) (n cap : Nat) (zs : List Int) (w : World) (h : Reads w a n zs) : (convert 22 9 (.slice a n cap)).run Try.prog w = .ok (.string (strOfNums zs)) w := by
  cases a with
  | none =>
    have h0 := h.2.2.1 rfl
    have hz : zs = [] := List.eq_nil_of_length_eq_zero (by have := h.1; omega)
    subst hz
    exact run_convert_bytes_nil w 22 5 Try.underlying22 Try.underlying5 n cap 9 Try.underlying9
  | some x =>
    have hl : (loadCells x n).run Try.prog w = .ok (zs.map (Value.int .u8)).toArray w := by
      have := run_loadCells_list (P := Try.prog) w x (zs.map (Value.int .u8)) h.news
      simpa [h.1] using this
    rw [run_convert_bytes_string w 22 9 5 _ n cap Try.underlying22 Try.underlying5 Try.underlying9, run_bytesToString w _ n cap zs hl, foldl_push_bytes]
    simp [strOfNums, ByteArray.empty, ByteArray.emptyWithCapacity]
    rfl

theorem Own.reads {w : World} {B g n cap : Nat} {xs : List Int} (h : Own w B g n cap xs) (hr : ∀ x ∈ xs, 0 ≤ x ∧ x ≤ 255) (m : Nat) (hm : m ≤ n) : Reads w (some ⟨g, 0, none⟩) m (xs.take m) := by
  have hl := h.len
  refine ⟨by simp; omega, fun x hx => hr x (List.mem_of_mem_take hx), (fun h => by cases h), fun x hx i hi => ?_⟩
  cases hx
  rw [plain_add, Nat.zero_add, h.cell i (by omega)]
  simp [List.getD, hi]

theorem Reads.drewN {w : World} {a : Option Addr} {len : Nat} {zs : List Int} (h : Reads w a len zs) (k : Nat) : Reads (w.drewN k) a len zs := by
  obtain ⟨h1, h2, h3, h4⟩ := h
  exact ⟨h1, h2, h3, fun x hx i hi => by simpa using h4 x hx i hi⟩

theorem Own.below {w w' : World} {B g n cap : Nat} {xs : List Int} (h : Own w B g n cap xs) (hb : Below w.heap.size w w') : Own w' B g n cap xs := by
  obtain ⟨h1, h2⟩ := h
  refine ⟨h1, ?_⟩
  rcases h2 with h2 | ⟨g', cap', cur, hv, hg, hh, r⟩
  · exact Or.inl h2
  · refine Or.inr ⟨g', cap', cur, hv, hg, ?_, r⟩
    rw [hb.block g' ?_]
    · exact hh
    · rcases Nat.lt_or_ge g' w.heap.size with h | h
      · exact h
      · simp [Array.getElem?_eq_none h] at hh

theorem Own.drewN {w : World} {B g n cap : Nat} {xs : List Int} (h : Own w B g n cap xs) (k : Nat) : Own (w.drewN k) B g n cap xs := by
  obtain ⟨h1, h2⟩ := h
  exact ⟨h1, by simpa using h2⟩

theorem Own.lt {w : World} {B g n cap : Nat} {xs : List Int} (h : Own w B g n cap xs) : B ≤ g ∧ g < w.heap.size :=
  World.ownsRow.lt h g rfl

theorem made0 (w : World) : (w.alloc (.cells #[] 5)).ownsRow w.heap.size 5 1 (.slice (some ⟨w.heap.size, 0, none⟩) 0 0) 0 [] := World.ownsRow_made w #[] 0 (Nat.le_refl _) (by simp [maxLen]) rfl

theorem news_in {w : World} {x : Addr} {len : Nat} {zs : List Int} (h : Reads w (some x) len zs) : ∀ j u, (zs.map (Value.int .u8))[j]? = some u → (w.alloc (.cells #[] 5)).cell? (x.add j) = some u := fun j u hj => by
  have h1 := h.news j u hj
  rw [((Below.refl w.heap.size w).alloc (Nat.le_refl _) _).cell (block_lt_of_cell h1)]
  exact h1

theorem wpList_append_reads {w : World} {ops : Array Oper} {rest : List Oper} {o : Oper} {a : Act} {Q : Exit → Act → World → Prop} (hgd : o.guard = none) (s x : Operand)
    (ho : o.op = .call { callee := .builtin .append, args := #[s, x], argTypes := #[22, 22] })
    (base : Nat) (v : Value) (n : Nat) (xs : List Int) (hs : a.eval s = v) (hown : w.ownsRow base 5 1 v n (xs.map (Value.int .u8)))
    (ad : Option Addr) (m c : Nat) (zs : List Int) (hx : a.eval x = .slice ad m c) (hrd : Reads w ad m zs)
    (hb : n + m ≤ 140737488355328) (hbase : base ≤ w.heap.size)
    (h : ∀ v' w', w'.ownsRow base 5 1 v' (n + m) ((xs ++ zs).map (Value.int .u8)) → w.grownBy w' v.ownBlock → wpList Try.prog ops Q rest (a.put o.dst v') w') : wpList Try.prog ops Q (o :: rest) a w := by
  obtain ⟨i0, hi, hz0, hz1, hz2⟩ := info_parts info5
  cases ad with
  | some ad =>
    refine wpList_append_own w hgd s x 22 ho base 5 i0 (.int .u8 0) 1 1 Try.underlying22 hi hz0 hz1 hz2 rfl (by decide) v n _ hs hown ad m c (zs.map (Value.int .u8)) hx (by simp [hrd.1]) hrd.news (ints_oneCell _ _) (by simp [maxLen]; omega) (by omega) hbase ?_
    intro v' w' h1 h2 _
    exact h v' w' (by rw [List.map_append]; exact h1) h2
  | none =>
    have h0 := hrd.2.2.1 rfl
    have hz : zs = [] := List.eq_nil_of_length_eq_zero (by have := hrd.1; omega)
    subst h0
    subst hz
    have hrun : (Builtin.append_ #[22, 22] o.type #[v, .slice none 0 c]).run Try.prog w = .ok v w := by
      rcases hown.2 with ⟨rfl, rfl⟩ | ⟨g, cap, cur, rfl, _, _, hnc, _⟩
      · simp [Builtin.append_, run_underlying Try.underlying22, sizeOf, typeInfo, hi, Builtin.lenOf, Builtin.firstCells]
      · simp [Builtin.append_, run_underlying Try.underlying22, sizeOf, typeInfo, hi, Builtin.lenOf, Builtin.firstCells, hnc, storeCells]
    refine wpList_plain hgd fun K hK => ?_
    unfold Oper.wp
    simp [execOp, ho, resolve, invoke, builtin, hs, hx, hrun, Result.andThen]
    exact hK _ _ (h v w (by simpa using hown) (World.grownBy.refl _ _))

theorem byteAt {zs : List Int} (h : ∀ x ∈ zs, 0 ≤ x ∧ x ≤ 255) (i : Nat) : 0 ≤ zs.getD i 0 ∧ zs.getD i 0 ≤ 255 := by
  rcases Nat.lt_or_ge i zs.length with h1 | h1
  · rw [List.getD_eq_getElem?_getD, List.getElem?_eq_getElem h1]
    exact h _ (List.getElem_mem h1)
  · rw [List.getD_eq_getElem?_getD, List.getElem?_eq_none h1]
    simp

theorem map_step (f : Int → Int) (zs ys : List Int) (k : Nat) (h : k < zs.length) (xs : List Int) (hx : xs = (zs.take k).map f ++ zs.drop k ++ ys) :
    xs.set k (f (xs.getD k 0)) = (zs.take (k + 1)).map f ++ zs.drop (k + 1) ++ ys := by
  have hl : ((zs.take k).map f).length = k := by simp; omega
  have e0 : xs = (zs.take k).map f ++ (zs[k] :: (zs.drop (k + 1) ++ ys)) := by rw [hx, List.append_assoc, List.drop_eq_getElem_cons h]; rfl
  have e : xs.getD k 0 = zs[k] := by
    rw [e0, List.getD_eq_getElem?_getD, List.getElem?_append_right (by omega), hl]
    simp
  rw [e, e0, List.set_append_right _ _ (by omega), hl, Nat.sub_self, List.set_cons_zero, List.take_succ_eq_append_getElem h, List.map_append]
  simp

theorem xor_range (z : Int) (h0 : 0 ≤ z) (h1 : z ≤ 255) : 0 ≤ bits .xor .u8 z 90 ∧ bits .xor .u8 z 90 ≤ 255 := by
  rw [u8_xor z 90 h0 (by omega) (by decide) (by decide)]
  have : z.toNat ^^^ 90 < 2 ^ 8 := Nat.xor_lt_two_pow (by omega) (by decide)
  exact ⟨by omega, by simp; omega⟩

theorem own_any {w : World} {B n : Nat} {v : Value} {xs : List Int} (h : w.ownsRow B 5 1 v n (xs.map (Value.int .u8))) (hr : ∀ x ∈ xs, 0 ≤ x ∧ x ≤ 255) : ∃ a c, v = .slice a n c ∧ Reads w a n xs := by
  have hl : xs.length = n := by have := h.1; simpa using this
  rcases h.2 with ⟨hv, h0⟩ | ⟨g, cap, cur, hv, _⟩
  · subst h0
    exact ⟨none, 0, hv, hl, hr, fun _ => rfl, fun _ h => by cases h⟩
  · subst hv
    have := Own.reads h hr n (Nat.le_refl _)
    rw [List.take_of_length_le (by omega)] at this
    exact ⟨_, _, rfl, this⟩

theorem getD_set (xs : List Int) (i j : Nat) (z : Int) (hi : i < xs.length) : (xs.set i z).getD j 0 = if i = j then z else xs.getD j 0 := by
  rw [List.getD_eq_getElem?_getD, List.getElem?_set]
  by_cases h : i = j
  · subst h; simp [hi]
  · simp [h, List.getD_eq_getElem?_getD]

theorem bytes_ext {a b : ByteArray} (h : a.data.toList = b.data.toList) : a = b := by
  obtain ⟨⟨a⟩⟩ := a
  obtain ⟨⟨b⟩⟩ := b
  simpa using h

theorem str_take (xs : List Int) (t : Nat) : (strOfNums xs).extract 0 t = strOfNums (xs.take t) := by
  refine bytes_ext ?_
  rw [Lib.extract_data, strOfNums_data, strOfNums_data, List.drop_zero, Nat.sub_zero, List.map_take]

theorem str_drop (xs : List Int) (t : Nat) : (strOfNums xs).extract t (strOfNums xs).size = strOfNums (xs.drop t) := by
  refine bytes_ext ?_
  rw [Lib.extract_data, strOfNums_data, strOfNums_data, strOfNums_size, List.map_drop, List.take_of_length_le (by simp)]

theorem Reads.cut {w : World} {g len : Nat} {zs : List Int} (h : Reads w (some ⟨g, 0, none⟩) len zs) (j c : Nat) (hj : j ≤ len) : Reads w (some ⟨g, j, none⟩) (len - j) (zs.drop j) := by
  obtain ⟨h1, h2, _, h4⟩ := h
  refine ⟨by simp; omega, fun x hx => h2 x (List.mem_of_mem_drop hx), (fun h => by cases h), fun x hx i hi => ?_⟩
  cases hx
  have := h4 _ rfl (j + i) (by omega)
  rw [plain_add] at this ⊢
  rw [Nat.zero_add] at this
  rw [this]
  simp [List.getD_eq_getElem?_getD]

theorem marks_range (zs : List Int) (h : ∀ x ∈ zs, 0 ≤ x ∧ x ≤ 255) : ∀ x ∈ zs ++ [161, 178, 195], 0 ≤ x ∧ x ≤ 255 := by
  intro x hx
  rcases List.mem_append.1 hx with h1 | h1
  · exact h x h1
  · simp at h1
    rcases h1 with rfl | rfl | rfl <;> decide
end Go.Proofs.Ytoaahellfflooaa
