/-
  SEAT Ytadlkikjfonkgaa: Kz, Base, Wd.
-/
import Derived.Deep.RegionHeld
import Derived.ProofKit
import Derived.Test.YtadlkikjfonkgaaRows
import Derived.WalkKit
import Derived.WalkSpells
import Derived.Below
import Derived.Laws.AppendOwnNone
import Derived.Deep.QuietTactic
import Derived.BigQuiet
import Derived.Laws.BytesArg
import Derived.WalkSmall
import Derived.Lib.Strings
import Derived.RegionTactic
import Derived.ChangeAlike
import Derived.Deep.RegionHeld3
import Derived.Deep.AppendLies
namespace Go.Proofs.Ytadlkikjfonkgaa
open Go.RowKit
set_option linter.unusedVariables false
set_option maxRecDepth 100000
set_option maxHeartbeats 4000000
variable {ops : Array Oper} {Q : Exit → Act → World → Prop} {a : Option Addr} {w w' : World} {zs xs : List Int} {B n g cap : Nat} {r : Option Nat} {o m : Int}
theorem zz : (∀ (a : Act) (i : Nat) (v : Value), a.put (some i) v = { a with tmps := a.tmps.setIfInBounds i v }) ∧ (∀ (a : Act) (v : Value), a.put none v = a) ∧ (∀ (l : List Value) (i : Nat) (v : Value), l.toArray.setIfInBounds i v = (l.set i v).toArray) ∧ (∀ (a v : Value) (l : List Value), (a :: l).set 0 v = v :: l) ∧ (∀ (a v : Value) (l : List Value) (n : Nat), (a :: l).set (n + 1) v = a :: l.set n v) :=
 ⟨fun _ _ _ => rfl, fun _ _ => rfl, fun _ _ _ => List.setIfInBounds_toArray .., fun _ _ _ => rfl, fun _ _ _ _ => rfl⟩
theorem td {P : Program} {md : Region.Mode} {S : World → Prop} {fuel : Nat} {listed : Array Bool} {a : Act} (h : Q .normal a w) (hr : Region.ready md ops listed = [] := by kernel_rfl) : wpAnyH P md ops Q S fuel listed a w := wpAnyH_done hr h fuel
section
variable {P : Program} {md : Region.Mode} {ops : Array Oper} {Q : Exit → Act → World → Prop} {S : World → Prop} {fuel : Nat} {listed : Array Bool} {a a' : Act} {w : World} {oi : Oper} {v : Value}
theorem tk (i : Nat) (h : wpAnyH P md ops Q S fuel (listed.setIfInBounds i true) a' w) (hi : ops[i]? = some oi := by (simp only [List.getElem?_toArray, List.getElem?_cons_zero, List.getElem?_cons_succ]; exact rfl)) (hs : Region.noSelect ops = true := by kernel_rfl) (hf : Region.free md ops listed i = true := by kernel_rfl) (hr : (Region.ready md ops listed).contains i = true := by kernel_rfl)
  (hg : Region.wanted oi (yielded ops a.tmps) = true := by rfl) (hy : ∀ w, S w → (execOp a.eval oi).run P w = .ok (.value v) w := by (intro x hx; (try dsimp only at hx); go_simp; try with_reducible rfl)) (ha : a.put oi.dst v = a' := by ((try simp only [zz]); exact rfl))
  (hQ : ∀ c a w, Q (.panic c) (a.put oi.dst v) w → Q (.panic c) a w := by exact fun _ _ _ h => h) (hS : S w := by assumption) : wpAnyH P md ops Q S (fuel + 1) listed a w :=
 wpAnyH_take hi hs hf hr hQ (Or.inl ⟨hg, hy⟩) hS (ha ▸ h)
theorem tu (i : Nat) (h : wpAnyH P md ops Q S fuel (listed.setIfInBounds i true) a' w) (hi : ops[i]? = some oi := by (simp only [List.getElem?_toArray, List.getElem?_cons_zero, List.getElem?_cons_succ]; exact rfl)) (hs : Region.noSelect ops = true := by kernel_rfl) (hf : Region.free md ops listed i = true := by kernel_rfl) (hr : (Region.ready md ops listed).contains i = true := by kernel_rfl)
  (hg : Region.wanted oi (yielded ops a.tmps) = false := by rfl) (ha : a.put oi.dst undef = a' := by ((try simp only [zz]); exact rfl))
  (hQ : ∀ c a w, Q (.panic c) (a.put oi.dst undef) w → Q (.panic c) a w := by exact fun _ _ _ h => h) (hS : S w := by assumption) : wpAnyH P md ops Q S (fuel + 1) listed a w :=
 wpAnyH_take hi hs hf hr hQ (Or.inr ⟨hg, rfl⟩) hS (ha ▸ h)
theorem rd (i : Nat) (h : ∀ K' : Act → World → Prop, Shut (∀ a w, S w → (S w → wpAnyH P md ops Q S fuel (listed.setIfInBounds i true) a w) → K' a w) → if Region.wanted oi (yielded ops a.tmps) = true then Oper.wp P oi a w K' Q else K' (a.put oi.dst undef) w) (hi : ops[i]? = some oi := by (simp only [List.getElem?_toArray, List.getElem?_cons_zero, List.getElem?_cons_succ]; exact rfl)) (hr : Region.ready md ops listed = [i] := by kernel_rfl) : wpAnyH P md ops Q S (fuel + 1) listed a w :=
 wpAnyH_ready hr (by simp) (AllReadyH.cons hi h AllReadyH.nil)
end
theorem ret_bool {a b : Bool} (h : a = b) : Ending.returned (.bool a) = .returned (.bool b) := by rw [h]
theorem ret_int {k : IntKind} {a b : Int} (h : a = b) : Ending.returned (.int k a) = .returned (.int k b) := by rw [h]
def Reads (w : World) (a : Option Addr) (len : Nat) (zs : List Int) : Prop :=
 zs.length = len ∧ (∀ n ∈ zs, 0 ≤ n ∧ n ≤ 255) ∧ (a = none → len = 0) ∧ ∀ x, a = some x → ∀ i, i < len → w.cell? (x.add i) = some (.int .u8 (zs.getD i 0))
def Own (w : World) (B g n cap : Nat) (xs : List Int) : Prop :=
 w.ownsRow B 5 1 (.slice (some ⟨g, 0, none⟩) n cap) n (xs.map (Value.int .u8))
theorem info5 : (Try.prog.info? 5).map (fun i => (i.zero, i.size, i.bytes)) = some (some (.int .u8 0), 1, 1) := by kernel_rfl
theorem Reads.news {x : Addr} {len : Nat} (h : Reads w (some x) len zs) : ∀ j u, (zs.map (Value.int .u8))[j]? = some u → w.cell? (x.add j) = some u := by
 intro j u hj
 obtain ⟨hl, _, _, hc⟩ := h
 rw [List.getElem?_map] at hj
 cases hz : zs[j]? with
 | none => rw [hz] at hj; simp at hj
 | some q =>
  rw [hz] at hj
  simp at hj
  have hlt : j < zs.length := by
   rcases Nat.lt_or_ge j zs.length with h | h
   ·exact h
   ·rw [List.getElem?_eq_none h] at hz; simp at hz
  rw [hc x rfl j (by omega), ← hj]
  simp [List.getD, hz]
theorem Reads.below {len : Nat} (h : Reads w a len zs) (hb : Below w.heap.size w w') : Reads w' a len zs := by
 obtain ⟨hl, hr, hn, hc⟩ := h
 refine ⟨hl, hr, hn, fun x hx i hi => ?_⟩
 have h1 := hc x hx i hi
 rw [hb.cell (block_lt_of_cell h1)]
 exact h1
theorem own_shape {v : Value} {xs : List Value} (h : w.ownsRow B 5 1 v n xs) (hn : 0 < n) : ∃ g cap, v = .slice (some ⟨g, 0, none⟩) n cap ∧ n ≤ cap ∧ cap ≤ maxLen ∧ B ≤ g ∧ g < w.heap.size := by
 rcases h.2 with ⟨_, h0⟩ | ⟨g, cap, cur, hv, hb, hg, hnc, hcm, _⟩
 ·omega
 ·refine ⟨g, cap, hv, hnc, hcm, hb, ?_⟩
  rcases Nat.lt_or_ge g w.heap.size with h | h
  ·exact h
  ·simp [Array.getElem?_eq_none h] at hg
theorem plain_add (b off j : Nat) : (⟨b, off, none⟩ : Addr).add j = ⟨b, off + j, none⟩ := by unfold Addr.add; split <;> simp_all
theorem Reads.pos {len : Nat} (h : Reads w a len zs) (hp : 0 < len) :
  ∃ b off, a = some ⟨b, off, none⟩ ∧ b < w.heap.size ∧ ∀ i, i < len → w.cell? ⟨b, off + i, none⟩ = some (.int .u8 (zs.getD i 0)) := by
 obtain ⟨hl, _, hn, hc⟩ := h
 cases a with
 | none => have := hn rfl; omega
 | some x =>
  obtain ⟨b, off, spot⟩ := x
  have h0 := hc _ rfl 0 hp
  have hspot : spot = none := by simpa [Addr.add] using World.cell?_spot h0
  subst hspot
  refine ⟨b, off, rfl, by simpa [Addr.add] using block_lt_of_cell h0, fun i hi => ?_⟩
  have h1 := hc _ rfl i hi
  rw [plain_add] at h1
  exact h1
theorem take_map_snoc (zs : List Int) (k : Nat) (h : k < zs.length) : (zs.take k).map (Value.int .u8) ++ [Value.int .u8 (zs.getD k 0)] = (zs.take (k + 1)).map (Value.int .u8) := by
 rw [List.take_succ_eq_append_getElem h]
 rw [List.map_append]
 congr 1
 simp [List.getD, List.getElem?_eq_getElem h]
theorem news_one (w : World) (z : Int) : ∀ j u, [Value.int .u8 z][j]? = some u → (w.alloc (.cells #[.int .u8 z] 5)).cell? ((⟨w.heap.size, 0, none⟩ : Addr).add j) = some u := by
 intro j u hj
 match j, hj with
 | 0, hj => simp at hj; subst hj; simp [Addr.add]
theorem grownBy_trans {a b c : World} (h : a.grownBy b r) (k : b.grownBy c r) : a.grownBy c r :=
 ⟨k.os.trans h.os, k.tape.trans h.tape, k.output.trans h.output, Nat.le_trans h.size k.size, fun i hi hr => (k.block i (Nat.lt_of_lt_of_le hi h.size) hr).trans (h.block i hi hr)⟩
theorem Own.set (h : Own w B g n cap xs) (j : Nat) (z : Int) : Own (w.setCell ⟨g, j, none⟩ (.int .u8 z)) B g n cap (xs.set j z) ∧ w.grownBy (w.setCell ⟨g, j, none⟩ (.int .u8 z)) (some g) := by
 unfold Own at *
 rw [List.map_set]
 exact World.ownsRow.stored h j (.int .u8 z)
theorem Own.len (h : Own w B g n cap xs) : xs.length = n := by
 have := h.1
 simpa using this
theorem Own.cell (h : Own w B g n cap xs) (j : Nat) (hj : j < n) : w.cell? ⟨g, j, none⟩ = some (.int .u8 (xs.getD j 0)) := by
 have hl := h.len
 have h1 := World.ownsRow.cellAt h j (by omega)
 rw [h1, List.getElem?_map, List.getElem?_eq_getElem (by omega)]
 simp [List.getD, List.getElem?_eq_getElem (show j < xs.length by omega)]
theorem conv (a : Option Addr) (n cap : Nat) (zs : List Int) (w : World) (h : Reads w a n zs) : (convert 24 9 (.slice a n cap)).run Try.prog w = .ok (.string (strOfNums zs)) w := by
 cases a with
 | none =>
  have h0 := h.2.2.1 rfl
  have hz : zs = [] := List.eq_nil_of_length_eq_zero (by have := h.1; omega)
  subst hz
  exact run_convert_bytes_nil w 24 5 Try.underlying24 Try.underlying5 n cap 9 Try.underlying9
 | some x =>
  have hl : (loadCells x n).run Try.prog w = .ok (zs.map (Value.int .u8)).toArray w := by
   have := run_loadCells_list (P := Try.prog) w x (zs.map (Value.int .u8)) h.news
   simpa [h.1] using this
  rw [run_convert_bytes_string w 24 9 5 _ n cap Try.underlying24 Try.underlying5 Try.underlying9, run_bytesToString w _ n cap zs hl, foldl_push_bytes]
  simp [strOfNums, ByteArray.empty, ByteArray.emptyWithCapacity]
  rfl
theorem Own.reads (h : Own w B g n cap xs) (hr : ∀ x ∈ xs, 0 ≤ x ∧ x ≤ 255) (m : Nat) (hm : m ≤ n) : Reads w (some ⟨g, 0, none⟩) m (xs.take m) := by
 have hl := h.len
 refine ⟨by simp; omega, fun x hx => hr x (List.mem_of_mem_take hx), (fun h => by cases h), fun x hx i hi => ?_⟩
 cases hx
 rw [plain_add, Nat.zero_add, h.cell i (by omega)]
 simp [List.getD, hi]
theorem Reads.drewN {len : Nat} (h : Reads w a len zs) (k : Nat) : Reads (w.drewN k) a len zs := by
 obtain ⟨h1, h2, h3, h4⟩ := h
 exact ⟨h1, h2, h3, fun x hx i hi => by simpa using h4 x hx i hi⟩
theorem Own.below (h : Own w B g n cap xs) (hb : Below w.heap.size w w') : Own w' B g n cap xs := by
 obtain ⟨h1, h2⟩ := h
 refine ⟨h1, ?_⟩
 rcases h2 with h2 | ⟨g', cap', cur, hv, hg, hh, r⟩
 ·exact Or.inl h2
 ·refine Or.inr ⟨g', cap', cur, hv, hg, ?_, r⟩
  rw [hb.block g' ?_]
  ·exact hh
  ·rcases Nat.lt_or_ge g' w.heap.size with h | h
   ·exact h
   ·simp [Array.getElem?_eq_none h] at hh
theorem Own.lt (h : Own w B g n cap xs) : B ≤ g ∧ g < w.heap.size :=
 World.ownsRow.lt h g rfl
theorem made0 (w : World) : (w.alloc (.cells #[] 5)).ownsRow w.heap.size 5 1 (.slice (some ⟨w.heap.size, 0, none⟩) 0 0) 0 [] := World.ownsRow_made w #[] 0 (Nat.le_refl _) (by simp [maxLen]) rfl
theorem wpList_append_reads {rest : List Oper} {o : Oper} {a : Act} (hgd : o.guard = none) (s x : Operand)
  (ho : o.op = .call { callee := .builtin .append, args := #[s, x], argTypes := #[24, 24] })
  (base : Nat) (v : Value) (n : Nat) (xs : List Int) (hs : a.eval s = v) (hown : w.ownsRow base 5 1 v n (xs.map (Value.int .u8)))
  (ad : Option Addr) (m c : Nat) (zs : List Int) (hx : a.eval x = .slice ad m c) (hrd : Reads w ad m zs)
  (hb : n + m ≤ 140737488355328) (hbase : base ≤ w.heap.size)
  (h : ∀ v' w', w'.ownsRow base 5 1 v' (n + m) ((xs ++ zs).map (Value.int .u8)) → w.grownBy w' v.ownBlock → wpList Try.prog ops Q rest (a.put o.dst v') w') : wpList Try.prog ops Q (o :: rest) a w := by
 obtain ⟨i0, hi, hz0, hz1, hz2⟩ := info_parts info5
 cases ad with
 | some ad =>
  refine wpList_append_own w hgd s x 24 ho base 5 i0 (.int .u8 0) 1 1 Try.underlying24 hi hz0 hz1 hz2 rfl (by decide) v n _ hs hown ad m c (zs.map (Value.int .u8)) hx (by simp [hrd.1]) hrd.news (ints_oneCell _ _) (by simp [maxLen]; omega) (by omega) hbase ?_
  intro v' w' h1 h2 _
  exact h v' w' (by rw [List.map_append]; exact h1) h2
 | none =>
  have h0 := hrd.2.2.1 rfl
  have hz : zs = [] := List.eq_nil_of_length_eq_zero (by have := hrd.1; omega)
  subst h0
  subst hz
  have hrun : (Builtin.append_ #[24, 24] o.type #[v, .slice none 0 c]).run Try.prog w = .ok v w := by
   rcases hown.2 with ⟨rfl, rfl⟩ | ⟨g, cap, cur, rfl, _, _, hnc, _⟩
   ·simp [Builtin.append_, run_underlying Try.underlying24, sizeOf, typeInfo, hi, Builtin.lenOf, Builtin.firstCells]
   ·simp [Builtin.append_, run_underlying Try.underlying24, sizeOf, typeInfo, hi, Builtin.lenOf, Builtin.firstCells, hnc, storeCells]
  refine wpList_plain hgd fun K N => ?_
  unfold Oper.wp
  simp [execOp, ho, resolve, invoke, builtin, hs, hx, hrun, Result.andThen]
  exact N _ _ (h v w (by simpa using hown) (World.grownBy.refl _ _))
theorem byteAt (h : ∀ x ∈ zs, 0 ≤ x ∧ x ≤ 255) (i : Nat) : 0 ≤ zs.getD i 0 ∧ zs.getD i 0 ≤ 255 := by
 rcases Nat.lt_or_ge i zs.length with h1 | h1
 ·rw [List.getD_eq_getElem?_getD, List.getElem?_eq_getElem h1]
  exact h _ (List.getElem_mem h1)
 ·rw [List.getD_eq_getElem?_getD, List.getElem?_eq_none h1]
  simp
theorem own_any {v : Value} (h : w.ownsRow B 5 1 v n (xs.map (Value.int .u8))) (hr : ∀ x ∈ xs, 0 ≤ x ∧ x ≤ 255) : ∃ a c, v = .slice a n c ∧ Reads w a n xs := by
 have hl : xs.length = n := by have := h.1; simpa using this
 rcases h.2 with ⟨hv, h0⟩ | ⟨g, cap, cur, hv, _⟩
 ·subst h0
  exact ⟨none, 0, hv, hl, hr, fun _ => rfl, fun _ h => by cases h⟩
 ·subst hv
  have := Own.reads h hr n (Nat.le_refl _)
  rw [List.take_of_length_le (by omega)] at this
  exact ⟨_, _, rfl, this⟩
theorem marks_range (zs : List Int) (h : ∀ x ∈ zs, 0 ≤ x ∧ x ≤ 255) : ∀ x ∈ zs ++ [161, 178, 195], 0 ≤ x ∧ x ≤ 255 := by
 intro x hx
 rcases List.mem_append.1 hx with h1 | h1
 ·exact h x h1
 ·simp at h1
  rcases h1 with rfl | rfl | rfl <;> decide
theorem no_any (n : Int) (w : World) : Calls Try.prog 11 #[.int .i64 n] w fun e w' => e = .returned (.int .i64 n) ∧ w = w' := by
 go_enter Try.func11, Try.ntmps11
 go_wp2
 go_ret
 exact ⟨rfl, rfl⟩
theorem join_any (a : Option Addr) (len cap : Nat) (zs : List Int) (w : World) (h : Reads w a len zs) (hr : len ≤ 140737488355000) :
  Calls Try.prog 80 #[.slice a len cap] w fun e w' => ∃ g cap', e = .returned (.slice (some ⟨g, 0, none⟩) len cap') ∧ Own w' w.heap.size g len cap' zs ∧ Below w.heap.size w w' := by
 obtain ⟨i0, hi, hz0, hz1, hz2⟩ := info_parts info5
 have hlen := h.1
 go_enter Try.func80, Try.ntmps80
 go_wp2
 go_loopw [3, 4] (fun v i wr => ∃ k g c : Nat, k ≤ len ∧ i = .int .i64 k ∧ v = .slice (some ⟨g, 0, none⟩) k c ∧ Own wr w.heap.size g k c (zs.take k) ∧ Below w.heap.size w wr)
  (fun _ i _ => len - (intOf i).toNat)
 case atStart => exact ⟨0, w.heap.size, 0, Nat.zero_le _, rfl, rfl, by simpa [Own] using World.ownsRow_made w #[] 0 (Nat.le_refl _) (by simp [maxLen]) rfl, (Below.refl w.heap.size w).alloc (Nat.le_refl _) _⟩
 case round =>
  obtain ⟨k, g, c, hk, rfl, rfl, hown, hbel⟩ := hrel
  by_cases hlt : k < len
  ·obtain ⟨b, off, rfl, hb, hcell⟩ := h.pos (by omega)
   obtain ⟨z, hz⟩ : ∃ z, z = zs.getD k 0 := ⟨_, rfl⟩
   have hcx : wr.cell? ⟨b, off + k, none⟩ = some (.int .u8 z) := by rw [hz]; exact (hbel.cell (by exact hb)).trans (hcell k hlt)
   have HZ : Hid (z = zs.getD k 0) := hz
   clear hz
   unfold Own at hown
   go_wp2_with (
    (at_builtin; refine wpList_append_own _ rfl _ _ 24 rfl w.heap.size 5 i0 (.int .u8 0) 1 1 Try.underlying24 hi hz0 hz1 hz2 rfl (by decide) _ _ _ rfl (hown.alloc _) ⟨wr.heap.size, 0, none⟩ 1 1 [.int .u8 z] rfl rfl (news_one _ _) (by simp [Value.oneCell']) (by simp [maxLen]; omega) (by omega) (by have := hbel.size; simp; omega) ?_; intro v1 w1 hown1 hgrow1 _; obtain ⟨g2, c2, rfl, hc2, hm2, hbg, hgl⟩ := own_shape hown1 (by omega)))
   have hz := HZ.out
   have hown2 : Own w1 w.heap.size g2 (k + 1) c2 (zs.take (k + 1)) := by
    unfold Own
    rw [← take_map_snoc zs k (by omega), ← hz]
    exact hown1
   have hbel2 : Below w.heap.size w w1 := (hbel.alloc hbel.size _).grown hgrow1 (by have := hbel.size; simp; omega) (fun k hk => (hown.lt k hk).1)
   clear hown1 hgrow1 hown hcx
   go_wp2
   go_roundw
   case rel => exact ⟨k + 1, g2, c2, by omega, by go_num, rfl, hown2, hbel2⟩
   case measure => simp [intOf]; omega
  ·have hkl : k = len := by omega
   subst hkl
   go_wp2
   go_ret
   exact ⟨g, c, rfl, by simpa [List.take_of_length_le (Nat.le_of_eq hlen)] using hown, hbel⟩
theorem xor_max (z : Int) (h0 : 0 ≤ z) (h1 : z ≤ 255) : bits .xor .u8 IntKind.u8.max z = 255 - z := by
 obtain ⟨n, rfl⟩ := Int.eq_ofNat_of_zero_le h0
 have e : IntKind.u8.max = ((255 : Nat) : Int) := by decide
 have : ∀ n, n < 256 → 255 ^^^ n = 255 - n := by decide +kernel
 rw [e, u8_xor_nat 255 n (by decide) (by omega), this n (by omega)]
 omega
theorem grownBy_drew {a b : World} (h : a.grownBy b r) : a.grownBy b.drew r := ⟨h.os, h.tape, h.output, h.size, h.block⟩
theorem Own.drew (h : Own w B g n cap xs) : Own w.drew B g n cap xs := h
def flipL (xs : List Int) (j : Nat) : List Int := xs.set (j / 8) (bits .xor .u8 (xs.getD (j / 8) 0) (2 ^ (j % 8) % 256))
theorem flip_ok (B g m cap l j : Nat) (xs : List Int) (w : World) (hl : l ≤ 140737488355000) (hj : j < 8 * l) (hlm : l ≤ m) (hown : Own w B g m cap xs) :
  Calls Try.prog 94 #[.slice (some ⟨g, 0, none⟩) l cap, .int .i64 j] w fun e w' => e = .returned (.int .i64 0) ∧ Own w' B g m cap (flipL xs j) ∧ w.grownBy w' (some g) := by
 obtain ⟨z, hz⟩ : ∃ z, z = xs.getD (j / 8) 0 := ⟨_, rfl⟩
 have hcx : w.cell? ⟨g, j / 8, none⟩ = some (.int .u8 z) := by rw [hz]; exact hown.cell (j / 8) (by omega)
 have hfz : w.frozen? ⟨g, j / 8, none⟩ = false := World.ownsRow.frozenAt hown (j / 8)
 have i1 : (j : Int) / 8 < (l : Int) := by omega
 obtain ⟨hs1, hs2⟩ := hown.set (j / 8) (bits .xor .u8 z (2 ^ (j % 8) % 256))
 have HS1 : Hid (Own (w.setCell ⟨g, j / 8, none⟩ (.int .u8 (bits .xor .u8 z (2 ^ (j % 8) % 256)))) B g m cap (flipL xs j)) := by unfold flipL; rw [← hz]; exact hs1
 have HS2 : Hid (w.grownBy (w.setCell ⟨g, j / 8, none⟩ (.int .u8 (bits .xor .u8 z (2 ^ (j % 8) % 256)))) (some g)) := hs2
 clear hz hs1 hs2 hown
 go_enter Try.func94, Try.ntmps94
 go_wp2
 go_region
 all_goals go_wp2
 all_goals go_ret
 exact ⟨rfl, HS1.out.drew, grownBy_drew HS2.out⟩
theorem rflip_ok (a : Option Addr) (cap l j : Nat) (xs : List Int) (w : World) (hl : l ≤ 140737488355000) (hj : j < 8 * l) (h : Reads w a l xs) :
  Calls Try.prog 112 #[.slice a l cap, .int .i64 j] w fun e w' => ∃ g c, e = .returned (.tuple #[.slice (some ⟨g, 0, none⟩) l c, .int .i64 0]) ∧ Own w' w.heap.size g l c (flipL xs j) ∧ Below w.heap.size w w' := by
 obtain ⟨z, hz⟩ : ∃ z, z = xs.getD (j / 8) 0 := ⟨_, rfl⟩
 have i1 : (j : Int) / 8 < (l : Int) := by omega
 have HZ : Hid (flipL xs j = xs.set (j / 8) (bits .xor .u8 z (2 ^ (j % 8) % 256))) := by unfold Hid flipL; rw [hz]
 go_enter Try.func112, Try.ntmps112
 go_wp2_with (go_at_call 80; refine (join_any _ _ _ _ _ h hl).mono ?_; rintro e w1 ⟨g, c, rfl, hown, hbel⟩; have hcx : w1.cell? ⟨g, j / 8, none⟩ = some (.int .u8 z) := (by rw [hz]; exact hown.cell (j / 8) (by omega)); have hfz : w1.frozen? ⟨g, j / 8, none⟩ = false := World.ownsRow.frozenAt hown (j / 8); clear hz)
 go_region
 all_goals go_wp2
 all_goals go_ret2
 refine ⟨g, c, rfl, ?_, ?_⟩
 ·rw [HZ.out]
  exact (hown.set _ _).1.drew
 ·exact (hbel.setCell (by exact hown.lt.1) _).drew
theorem pow_mod_range (j : Nat) : (0 : Int) ≤ 2 ^ (j % 8) % 256 ∧ (2 : Int) ^ (j % 8) % 256 ≤ 255 := by omega
theorem flipL_length (xs : List Int) (j : Nat) : (flipL xs j).length = xs.length := by simp [flipL]
theorem xor_b (z y : Int) (h0 : 0 ≤ z) (h1 : z ≤ 255) (h2 : 0 ≤ y) (h3 : y ≤ 255) : 0 ≤ bits .xor .u8 z y ∧ bits .xor .u8 z y ≤ 255 ∧ bits .xor .u8 (bits .xor .u8 z y) y = z := by
 obtain ⟨z, rfl⟩ := Int.eq_ofNat_of_zero_le h0
 obtain ⟨y, rfl⟩ := Int.eq_ofNat_of_zero_le h2
 have hx : z ^^^ y < 2 ^ 8 := Nat.xor_lt_two_pow (by omega) (by omega)
 rw [u8_xor_nat z y (by omega) (by omega), u8_xor_nat _ y (by omega) (by omega), Nat.xor_assoc, Nat.xor_self, Nat.xor_zero]
 omega
theorem flipL_range (xs : List Int) (j : Nat) (h : ∀ x ∈ xs, 0 ≤ x ∧ x ≤ 255) : ∀ x ∈ flipL xs j, 0 ≤ x ∧ x ≤ 255 := by
 intro x hx
 unfold flipL at hx
 rcases List.mem_or_eq_of_mem_set hx with h1 | h1
 ·exact h x h1
 ·have hb := byteAt h (j / 8)
  have hp := pow_mod_range j
  have := xor_b _ _ hb.1 hb.2 hp.1 hp.2
  rw [h1]
  exact ⟨this.1, this.2.1⟩
def mk (zs : List Int) (fill : Int) (i : Nat) : Int := if i < zs.length then zs.getD i 0 else fill
theorem mk_range {fill : Int} (h : ∀ x ∈ zs, 0 ≤ x ∧ x ≤ 255) (hf : 0 ≤ fill ∧ fill ≤ 255) (i : Nat) : 0 ≤ mk zs fill i ∧ mk zs fill i ≤ 255 := by
 unfold mk
 split
 ·exact byteAt h i
 ·exact hf
theorem maskAt_any (a : Option Addr) (l cap : Nat) (zs : List Int) (fill : Int) (i : Nat) (w : World) (hl : l ≤ 140737488355000) (hi : i ≤ 140737488355000) (h : Reads w a l zs) :
  Calls Try.prog 114 #[.slice a l cap, .int .u8 fill, .int .i64 i] w fun e w' => e = .returned (.int .u8 (mk zs fill i)) ∧ w = w' := by
 have hlen := h.1
 by_cases hlt : i < l
 ·obtain ⟨b, off, rfl, hb, hcell⟩ := h.pos (by omega)
  have hm : mk zs fill i = zs.getD i 0 := if_pos (by omega)
  obtain ⟨z, hz⟩ : ∃ z, z = zs.getD i 0 := ⟨_, rfl⟩
  have hcx : w.cell? ⟨b, off + i, none⟩ = some (.int .u8 z) := by rw [hz]; exact hcell i hlt
  rw [hm, ← hz]
  clear hcell hz h hlen hm
  go_enter Try.func114, Try.ntmps114
  go_wp2
  go_ret
  exact ⟨rfl, rfl⟩
 ·have hm : mk zs fill i = fill := if_neg (by omega)
  rw [hm]
  clear hm
  go_enter Try.func114, Try.ntmps114
  go_wp2
  go_ret
  exact ⟨rfl, rfl⟩
theorem masked_any (a : Option Addr) (l cap : Nat) (zs : List Int) (fill : Int) (i : Nat) (w : World) (hl : l ≤ 140737488355000) (hi : i ≤ 140737488355000) (h : Reads w a l zs) :
  Calls Try.prog 111 #[.slice a l cap, .int .u8 fill, .int .i64 i] w fun e w' => e = .returned (.int .u8 (mk zs fill i)) ∧ w = w' := by
 have hlen := h.1
 by_cases hlt : i < l
 ·obtain ⟨b, off, rfl, hb, hcell⟩ := h.pos (by omega)
  have hm : mk zs fill i = zs.getD i 0 := if_pos (by omega)
  obtain ⟨z, hz⟩ : ∃ z, z = zs.getD i 0 := ⟨_, rfl⟩
  have hcx : w.cell? ⟨b, off + i, none⟩ = some (.int .u8 z) := by rw [hz]; exact hcell i hlt
  rw [hm, ← hz]
  clear hcell hz h hlen hm
  go_enter Try.func111, Try.ntmps111
  go_wp2
  go_ret
  exact ⟨rfl, rfl⟩
 ·have hm : mk zs fill i = fill := if_neg (by omega)
  rw [hm]
  clear hm
  go_enter Try.func111, Try.ntmps111
  go_wp2
  go_ret
  exact ⟨rfl, rfl⟩
def riseL (old mask : List Int) (fill : Int) : Nat → List Int
 | 0 => []
 | k + 1 => riseL old mask fill k ++ [bits .or .u8 (old.getD k 0) (mk mask fill k)]
theorem riseL_length (old mask : List Int) (fill : Int) (k : Nat) : (riseL old mask fill k).length = k := by
 induction k with
 | zero => rfl
 | succ k ih => simp [riseL, ih]
theorem made_full (w : World) (n : Nat) (hn : n ≤ 9223372036854775807) : Own (w.alloc (.cells (madeCells #[.int .u8 0] n) 5)) w.heap.size w.heap.size n n (List.replicate n 0) := by
 have h := World.ownsRow_lit (base := w.heap.size) (e := 5) (size := 1) w (madeCells #[.int .u8 0] n) n (Nat.le_refl _) (by simp [maxLen]; omega) (by simp [madeCells])
 have e : (madeCells #[Value.int .u8 0] n).toList = (List.replicate n (0 : Int)).map (Value.int .u8) := by
  refine List.ext_getElem (by simp [madeCells]) fun i h1 h2 => ?_
  simp [madeCells, Nat.mod_one]
 rw [e] at h
 exact h
theorem Reads.drew {len : Nat} (h : Reads w a len zs) : Reads w.drew a len zs := h
theorem grow_set (xs : List Int) {k : Nat} (hx : xs.length = k) (l : Nat) (h : k < l) (z : Int) : (xs ++ List.replicate (l - k) 0).set k z = xs ++ [z] ++ List.replicate (l - (k + 1)) 0 := by
 rw [List.set_append_right _ _ (by omega), hx, Nat.sub_self]
 have e : l - k = (l - (k + 1)) + 1 := by omega
 rw [e, List.replicate_succ, List.set_cons_zero]
 simp
theorem rise_any (a : Option Addr) (l cap : Nat) (zs : List Int) (am : Option Addr) (lm cm : Nat) (ms : List Int) (fill : Int) (w : World) (hl : l ≤ 140737488351232) (hlm : lm ≤ 140737488351232) (h : Reads w a l zs) (hm : Reads w am lm ms) :
  Calls Try.prog 106 #[.slice a l cap, .slice am lm cm, .int .u8 fill] w fun e w' => ∃ g c, e = .returned (.slice (some ⟨g, 0, none⟩) l c) ∧ Own w' w.heap.size g l c (riseL zs ms fill l) ∧ Below w.heap.size w w' := by
 obtain ⟨i0, hi, hz0, hz1, hz2⟩ := info_parts info5
 have hlen := h.1
 have hmk : ∀ u : World, (Instr.makeSlice 24 (.int .i64 (l : Int)) (.int .i64 (l : Int))).run Try.prog u =
   .ok (.slice (some ⟨u.heap.size, 0, none⟩) l l) (u.alloc (.cells (madeCells #[.int .u8 0] l) 5)) := fun u => by
  have h := run_make (P := Try.prog) u 24 5 i0 (.int .u8 0) Try.underlying24 hi hz0 .i64 .i64 (l : Int) (l : Int) (by omega) (Int.le_refl _) (by rw [hz2]; omega) (by omega)
  simpa [hz1, Value.cells] using h
 have hmf := made_full w l (by omega)
 go_enter Try.func106, Try.ntmps106
 go_wp2
 go_loopw [14] (fun i wr => ∃ k : Nat, k ≤ l ∧ i = .int .i64 k ∧ Own wr w.heap.size w.heap.size l l (riseL zs ms fill k ++ List.replicate (l - k) 0) ∧ Below w.heap.size w wr)
  (fun i _ => l - (intOf i).toNat)
 case atStart => exact ⟨0, Nat.zero_le _, rfl, by simpa [riseL] using hmf, (Below.refl w.heap.size w).alloc (Nat.le_refl _) _⟩
 case round =>
  obtain ⟨k, hk, rfl, hown, hbel⟩ := hrel
  by_cases hlt : k < l
  ·obtain ⟨b, off, rfl, hb, hcell⟩ := h.pos (by omega)
   obtain ⟨z, hz⟩ : ∃ z, z = zs.getD k 0 := ⟨_, rfl⟩
   have hcx : wr.cell? ⟨b, off + k, none⟩ = some (.int .u8 z) := by rw [hz]; exact (hbel.cell (by exact hb)).trans (hcell k hlt)
   have hcy := hown.cell k hlt
   have hfz : wr.frozen? ⟨w.heap.size, k, none⟩ = false := World.ownsRow.frozenAt hown k
   have hmr := hm.below hbel
   have i1 : (k : Int) < (l : Int) := by omega
   have i2 : (0 : Int) ≤ (k : Int) := by omega
   have hd1 : decide ((k : Int) < (l : Int)) = true := decide_eq_true i1
   have hbn : b ≠ w.heap.size := by omega
   have hS := hown.set k (bits .or .u8 z (mk ms fill k))
   have HS : Hid (Own (wr.setCell ⟨w.heap.size, k, none⟩ (.int .u8 (bits .or .u8 z (mk ms fill k)))) w.heap.size w.heap.size l l (riseL zs ms fill (k + 1) ++ List.replicate (l - (k + 1)) 0)) := by
    have h1 := hS.1
    rw [grow_set (riseL zs ms fill k) (riseL_length _ _ _ _) l hlt] at h1
    rw [riseL, ← hz]
    exact h1
   have HB : Hid (Below w.heap.size w (wr.setCell ⟨w.heap.size, k, none⟩ (.int .u8 (bits .or .u8 z (mk ms fill k))))) := hbel.setCell (Nat.le_refl _) _
   clear hcell hz h hS hown hlen hm
   go_wp2
   go_region_held3 (fun w' => w'.cell? ⟨b, off + k, none⟩ = some (.int .u8 z))
    (first | exact hcx | exact (Below.cell ((Below.setCell (Below.refl w.heap.size wr) (p := ⟨w.heap.size, k, none⟩) (Nat.le_refl _) _).drew) (by exact hb)).trans hcx)
    (first | (go_at_call 114; refine (maskAt_any _ _ _ ms _ k _ ?_ ?_ ?_).mono ?_; omega; omega; exact hmr.drew; rintro e u ⟨rfl, rfl⟩))
   go_wp2
   go_roundw
   case rel => exact ⟨k + 1, by omega, by go_num, HS.out, HB.out.drew⟩
   case measure => simp [intOf]; omega
  ·have hkl : k = l := by omega
   subst hkl
   rw [Nat.sub_self, List.replicate_zero, List.append_nil] at hown
   go_wp2
   go_ret
   exact ⟨_, _, rfl, hown, hbel⟩
def fb (o x m : Int) : Int := bits .and .u8 o (bits .or .u8 x (bits .xor .u8 IntKind.u8.max m))
def fallL (old want mask : List Int) (fill : Int) : Nat → List Int
 | 0 => []
 | k + 1 => fallL old want mask fill k ++ [fb (old.getD k 0) (want.getD k 0) (mk mask fill k)]
theorem fallL_length (old want mask : List Int) (fill : Int) (k : Nat) : (fallL old want mask fill k).length = k := by
 induction k with
 | zero => rfl
 | succ k ih => simp [fallL, ih]
theorem fall_ok (a : Option Addr) (l cap : Nat) (zs : List Int) (a' : Option Addr) (cap' : Nat) (xs : List Int) (am : Option Addr) (lm cm : Nat) (ms : List Int) (fill : Int) (w : World) (hl : l ≤ 140737488351232) (hlm : lm ≤ 140737488355000) (h : Reads w a l zs) (hx : Reads w a' l xs) (hm : Reads w am lm ms) :
  Calls Try.prog 107 #[.slice a l cap, .slice a' l cap', .slice am lm cm, .int .u8 fill] w fun e w' => ∃ g c, e = .returned (.tuple #[.slice (some ⟨g, 0, none⟩) l c, .int .i64 0]) ∧ Own w' w.heap.size g l c (fallL zs xs ms fill l) ∧ Below w.heap.size w w' := by
 obtain ⟨i0, hi, hz0, hz1, hz2⟩ := info_parts info5
 have hlen := h.1
 have hmk : ∀ u : World, (Instr.makeSlice 24 (.int .i64 (l : Int)) (.int .i64 (l : Int))).run Try.prog u =
   .ok (.slice (some ⟨u.heap.size, 0, none⟩) l l) (u.alloc (.cells (madeCells #[.int .u8 0] l) 5)) := fun u => by
  have h := run_make (P := Try.prog) u 24 5 i0 (.int .u8 0) Try.underlying24 hi hz0 .i64 .i64 (l : Int) (l : Int) (by omega) (Int.le_refl _) (by rw [hz2]; omega) (by omega)
  simpa [hz1, Value.cells] using h
 have hmf := made_full w l (by omega)
 go_enter Try.func107, Try.ntmps107
 go_wp2
 go_loopw [22] (fun i wr => ∃ k : Nat, k ≤ l ∧ i = .int .i64 k ∧ Own wr w.heap.size w.heap.size l l (fallL zs xs ms fill k ++ List.replicate (l - k) 0) ∧ Below w.heap.size w wr)
  (fun i _ => l - (intOf i).toNat)
 case atStart => exact ⟨0, Nat.zero_le _, rfl, by simpa [fallL] using hmf, (Below.refl w.heap.size w).alloc (Nat.le_refl _) _⟩
 case round =>
  obtain ⟨k, hk, rfl, hown, hbel⟩ := hrel
  by_cases hlt : k < l
  ·obtain ⟨b, off, rfl, hb, hcell⟩ := h.pos (by omega)
   obtain ⟨b', off', rfl, hb', hcell'⟩ := hx.pos (by omega)
   obtain ⟨z, hz⟩ : ∃ z, z = zs.getD k 0 := ⟨_, rfl⟩
   obtain ⟨x, hxx⟩ : ∃ x, x = xs.getD k 0 := ⟨_, rfl⟩
   have hcx : wr.cell? ⟨b, off + k, none⟩ = some (.int .u8 z) := by rw [hz]; exact (hbel.cell (by exact hb)).trans (hcell k hlt)
   have hcx' : wr.cell? ⟨b', off' + k, none⟩ = some (.int .u8 x) := by rw [hxx]; exact (hbel.cell (by exact hb')).trans (hcell' k hlt)
   have hcy := hown.cell k hlt
   have hfz : wr.frozen? ⟨w.heap.size, k, none⟩ = false := World.ownsRow.frozenAt hown k
   have hmr := hm.below hbel
   have i1 : (k : Int) < (l : Int) := by omega
   have i2 : (0 : Int) ≤ (k : Int) := by omega
   have hd1 : decide ((k : Int) < (l : Int)) = true := decide_eq_true i1
   have hS := hown.set k (fb z x (mk ms fill k))
   have HS : Hid (Own (wr.setCell ⟨w.heap.size, k, none⟩ (.int .u8 (fb z x (mk ms fill k)))) w.heap.size w.heap.size l l (fallL zs xs ms fill (k + 1) ++ List.replicate (l - (k + 1)) 0)) := by
    have h1 := hS.1
    rw [grow_set (fallL zs xs ms fill k) (fallL_length _ _ _ _ _) l hlt] at h1
    rw [fallL, ← hz, ← hxx]
    exact h1
   have HB : Hid (Below w.heap.size w (wr.setCell ⟨w.heap.size, k, none⟩ (.int .u8 (fb z x (mk ms fill k))))) := hbel.setCell (Nat.le_refl _) _
   clear hcell hcell' hz hxx h hx hS hown hlen hm
   go_wp2
   go_region_held3 (fun w' => w'.cell? ⟨b, off + k, none⟩ = some (.int .u8 z) ∧ w'.cell? ⟨b', off' + k, none⟩ = some (.int .u8 x))
    (first | exact ⟨hcx, hcx'⟩ | exact ⟨(Below.cell ((Below.setCell (Below.refl w.heap.size wr) (p := ⟨w.heap.size, k, none⟩) (Nat.le_refl _) _).drew) (by exact hb)).trans hcx, (Below.cell ((Below.setCell (Below.refl w.heap.size wr) (p := ⟨w.heap.size, k, none⟩) (Nat.le_refl _) _).drew) (by exact hb')).trans hcx'⟩)
    (first | (go_at_call 114; refine (maskAt_any _ _ _ ms _ k _ ?_ ?_ ?_).mono ?_; omega; omega; exact hmr.drew; rintro e u ⟨rfl, rfl⟩))
   go_wp2
   go_roundw
   case rel => exact ⟨k + 1, by omega, by go_num, HS.out, HB.out.drew⟩
   case measure => simp [intOf]; omega
  ·have hkl : k = l := by omega
   subst hkl
   rw [Nat.sub_self, List.replicate_zero, List.append_nil] at hown
   go_wp2
   go_ret2
   exact ⟨_, _, rfl, hown, hbel⟩
theorem max8 : IntKind.u8.max = ((255 : Nat) : Int) := by decide
theorem nat_of {z : Int} (h : 0 ≤ z ∧ z ≤ 255) : ∃ n : Nat, z = n ∧ n < 256 := by
 obtain ⟨n, rfl⟩ := Int.eq_ofNat_of_zero_le h.1
 exact ⟨n, rfl, by omega⟩
theorem fb_nat (o x m : Nat) (ho : o < 256) (hx : x < 256) (hm : m < 256) : fb (o : Int) (x : Int) (m : Int) = ((o &&& (x ||| (255 ^^^ m)) : Nat) : Int) := by
 have h1 : 255 ^^^ m < 256 := Nat.xor_lt_two_pow (n := 8) (by omega) hm
 have h2 : x ||| (255 ^^^ m) < 256 := Nat.or_lt_two_pow (n := 8) hx h1
 unfold fb
 rw [max8, u8_xor_nat 255 m (by omega) hm, u8_or_nat x _ hx h1, u8_and_nat o _ ho h2]
theorem fb_range {x : Int} (ho : 0 ≤ o ∧ o ≤ 255) (hx : 0 ≤ x ∧ x ≤ 255) (hm : 0 ≤ m ∧ m ≤ 255) : 0 ≤ fb o x m ∧ fb o x m ≤ 255 := by
 obtain ⟨o, rfl, ho'⟩ := nat_of ho
 replace ho := ho'
 obtain ⟨x, rfl, hx'⟩ := nat_of hx
 replace hx := hx'
 obtain ⟨m, rfl, hm'⟩ := nat_of hm
 replace hm := hm'
 have h3 : o &&& (x ||| (255 ^^^ m)) < 256 := Nat.lt_of_le_of_lt Nat.and_le_left ho
 rw [fb_nat o x m ho hx hm]
 omega
theorem fallL_range (zs xs ms : List Int) (fill : Int) (hz : ∀ x ∈ zs, 0 ≤ x ∧ x ≤ 255) (hx : ∀ x ∈ xs, 0 ≤ x ∧ x ≤ 255) (hm : ∀ x ∈ ms, 0 ≤ x ∧ x ≤ 255) (hf : 0 ≤ fill ∧ fill ≤ 255) (k : Nat) : ∀ x ∈ fallL zs xs ms fill k, 0 ≤ x ∧ x ≤ 255 := by
 induction k with
 | zero => intro x h; simp [fallL] at h
 | succ k ih =>
  intro x h
  rcases List.mem_append.1 h with h | h
  ·exact ih x h
  ·obtain rfl := List.mem_singleton.1 h
   exact fb_range (byteAt hz k) (byteAt hx k) (mk_range hm hf k)
theorem or_range (ho : 0 ≤ o ∧ o ≤ 255) (hm : 0 ≤ m ∧ m ≤ 255) : 0 ≤ bits .or .u8 o m ∧ bits .or .u8 o m ≤ 255 := by
 obtain ⟨o, rfl, h1⟩ := nat_of ho
 obtain ⟨m, rfl, h2⟩ := nat_of hm
 rw [u8_or o m (by omega) (by omega) (by omega) (by omega)]
 have : o ||| m < 2 ^ 8 := Nat.or_lt_two_pow h1 h2
 simp
 omega
theorem riseL_range (zs ms : List Int) (fill : Int) (hz : ∀ x ∈ zs, 0 ≤ x ∧ x ≤ 255) (hm : ∀ x ∈ ms, 0 ≤ x ∧ x ≤ 255) (hf : 0 ≤ fill ∧ fill ≤ 255) (k : Nat) : ∀ x ∈ riseL zs ms fill k, 0 ≤ x ∧ x ≤ 255 := by
 induction k with
 | zero => intro x h; simp [riseL] at h
 | succ k ih =>
  intro x h
  rcases List.mem_append.1 h with h | h
  ·exact ih x h
  ·obtain rfl := List.mem_singleton.1 h
   exact or_range (byteAt hz k) (mk_range hm hf k)
theorem own_base {B' : Nat} {v : Value} {xs : List Value} (h : w.ownsRow B 5 1 v n xs) (hb : B' ≤ B) : w.ownsRow B' 5 1 v n xs :=
 ⟨h.1, h.2.imp id fun ⟨g, c, cur, h1, h2, h3⟩ => ⟨g, c, cur, h1, Nat.le_trans hb h2, h3⟩⟩
theorem reads_of {c : Nat} (h : w.ownsRow B 5 1 (.slice a n c) n (xs.map (Value.int .u8))) (hr : ∀ x ∈ xs, 0 ≤ x ∧ x ≤ 255) : Reads w a n xs := by
 obtain ⟨a', c', e, hrd⟩ := own_any h hr
 cases e
 exact hrd
end Go.Proofs.Ytadlkikjfonkgaa
