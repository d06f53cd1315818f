/-
  SEAT YtgdmagmbkmgdfabDoor: same, roomy, kept; an append behind which the old slice stands.
-/
import Derived.Test.YtgdmagmbkmgdfabDoorLayC
namespace Go.Proofs.YtgdmagmbkmgdfabDoor
open Go.RowKit
set_option linter.unusedVariables false

set_option maxHeartbeats 400000 in
theorem same_any (a a' : Option Addr) (n c c' : Nat) (xs ys : List Int) (w : World) (hn : n ≤ 140737488355000) (h : Reads w a n xs) (h' : Reads w a' n ys) :
    Calls Tryd.prog 10 #[.slice a n c, .slice a' n c'] w fun e w' => e = .returned (.bool (decide (xs = ys))) ∧ ∃ k, w' = w.drewN k := by
  have hlx := h.1
  have hly := h'.1
  go_enter Tryd.func10, Tryd.ntmps10
  go_wp2
  go_loopw [5] (fun i wr => ∃ k j : Nat, k ≤ n ∧ i = .int .i64 k ∧ Hid (xs.take k = ys.take k) ∧ wr = w.drewN j)
    (fun i _ => n - (intOf i).toNat)
  case atStart => exact ⟨0, 0, Nat.zero_le _, rfl, by simp [Hid], rfl⟩
  case round =>
    obtain ⟨k, j, hk, rfl, HT, rfl⟩ := hrel
    by_cases hlt : k < n
    · obtain ⟨b, off, rfl, hb, hcell⟩ := h.pos (by omega)
      obtain ⟨b', off', rfl, hb', hcell'⟩ := h'.pos (by omega)
      obtain ⟨z, hz⟩ : ∃ z, z = xs.getD k 0 := ⟨_, rfl⟩
      obtain ⟨z', hz'⟩ : ∃ z', z' = ys.getD k 0 := ⟨_, rfl⟩
      have hcx : w.cell? ⟨b, off + k, none⟩ = some (.int .u8 z) := by rw [hz]; exact hcell k hlt
      have hcy : w.cell? ⟨b', off' + k, none⟩ = some (.int .u8 z') := by rw [hz']; exact hcell' k hlt
      have i1 : (k : Int) < (n : Int) := by omega
      have hd1 : decide ((k : Int) < (n : Int)) = true := decide_eq_true i1
      have ex : xs[k]'(by omega) = z := by rw [hz, List.getD_eq_getElem?_getD, List.getElem?_eq_getElem (by omega)]; rfl
      have ey : ys[k]'(by omega) = z' := by rw [hz', List.getD_eq_getElem?_getD, List.getElem?_eq_getElem (by omega)]; rfl
      by_cases he : z = z'
      · have HT2 : Hid (xs.take (k + 1) = ys.take (k + 1)) := by
          unfold Hid
          rw [List.take_succ_eq_append_getElem (by omega), List.take_succ_eq_append_getElem (by omega), HT.out, ex, ey, he]
        subst he
        clear hcell hcell' hz hz' ex ey h h' hlx hly HT
        go_wp2
        go_quiet (fail)
        go_wp2
        go_roundw
        case rel => exact ⟨k + 1, j + nq, by omega, by go_num, HT2, rfl⟩
        case measure => simp [intOf]; omega
      · have hne : xs ≠ ys := fun e => he (by rw [← ex, ← ey]; subst e; rfl)
        have h1 : (z == z') = false := by simpa using he
        have HB : Hid (decide (xs = ys) = false) := decide_eq_false hne
        clear hcell hcell' hz hz' ex ey h h' hlx hly HT hne he
        go_wp2
        go_quiet (fail)
        go_wp2
        go_ret
        exact ⟨by rw [HB.out]; rfl, j + nq, by rw [World.drewN_drewN]⟩
    · have hkl : k = n := by omega
      subst hkl
      have ht := HT.out
      rw [List.take_of_length_le (by omega), List.take_of_length_le (by omega)] at ht
      have HB : Hid (decide (xs = ys) = true) := decide_eq_true ht
      clear ht
      go_wp2
      go_ret
      exact ⟨by rw [HB.out]; rfl, j, rfl⟩

def room (zs : List Int) (k : Nat) : List Int := zs ++ List.replicate k 92
theorem room_succ (zs : List Int) (k : Nat) : room zs (k + 1) = room zs k ++ [92] := by simp [room, List.replicate_succ']

theorem room_getD (zs : List Int) (i k : Nat) (h : i < zs.length) : (room zs k).getD i 0 = zs.getD i 0 := by
  simp [room, List.getD_eq_getElem?_getD, List.getElem?_append_left h]
theorem room_getD2 (zs : List Int) (i k : Nat) (h : zs.length ≤ i) (h2 : i < zs.length + k) : (room zs k).getD i 0 = 92 := by
  simp [room, List.getD_eq_getElem?_getD, List.getElem?_append_right h, List.getElem?_replicate]
  rw [if_pos (by omega)]
  rfl

theorem Own.front {w : World} {B g n cap m : Nat} {xs : List Value} (h : w.ownsRow B 5 1 (.slice (some ⟨g, 0, none⟩) n cap) n xs) (hm : m ≤ n) : w.ownsRow B 5 1 (.slice (some ⟨g, 0, none⟩) m cap) m (xs.take m) := by
  obtain ⟨h1, h2⟩ := h
  refine ⟨by simp at h1 ⊢; omega, ?_⟩
  rcases h2 with ⟨h3, _⟩ | ⟨g', cap', cur, hv, hb, hg, hn, hc, hs, ht⟩
  · simp at h3
  · simp only [Value.slice.injEq, Option.some.injEq, Addr.mk.injEq, and_true, true_and] at hv
    obtain ⟨rfl, rfl⟩ := hv
    refine Or.inr ⟨g, cap, cur, rfl, hb, hg, by omega, hc, hs, ?_⟩
    rw [← ht, List.take_take]
    congr 1
    omega

/-- append to a row of the call's own: the old slice reads as it did. -/
theorem run_append_keep {w : World} (ty B g n cap : Nat) (xs : List Int) (hown : Own w B g n cap xs) (ad : Addr) (m c : Nat) (zs : List Int) (hrd : Reads w (some ad) m zs)
    (hb : n + m ≤ 140737488355328) (hbase : B ≤ w.heap.size) :
    ∃ v' w', (Builtin.append_ #[25, 25] ty #[.slice (some ⟨g, 0, none⟩) n cap, .slice (some ad) m c]).run Tryd.prog w = .ok v' w' ∧ w'.ownsRow B 5 1 v' (n + m) ((xs ++ zs).map (Value.int .u8)) ∧ w.grownBy w' (some g) ∧ Own w' B g n cap xs := by
  obtain ⟨i0, hi, hz0, hz1, hz2⟩ := info_parts info5
  have hlx := hown.len
  by_cases hroom : n + m ≤ cap
  · obtain ⟨w', h1, h2, h3⟩ := run_append_fits (P := Tryd.prog) w B 25 ty 5 i0 1 Tryd.underlying25 hi hz1 g n cap _ hown ad m c (zs.map (Value.int .u8)) (by simp [hrd.1]) hrd.news (ints_oneCell _ _) hroom
    refine ⟨_, w', h1, by rw [List.map_append]; exact h2, h3, ?_⟩
    have h4 := Own.front h2 (show n ≤ n + m by omega)
    rw [List.take_left' (by simp [hlx])] at h4
    exact h4
  · have holds : ∀ j u, (xs.map (Value.int .u8))[j]? = some u → w.cell? ((⟨g, 0, none⟩ : Addr).add j) = some u := World.ownsRow.cells hown (g := g) rfl
    have hr := run_append_grow (P := Tryd.prog) w 25 ty 5 i0 (.int .u8 0) Tryd.underlying25 hi hz0 ⟨g, 0, none⟩ n cap (xs.map (Value.int .u8)) (by simp [hlx, hz1]) holds ad m c (zs.map (Value.int .u8)) (by simp [hrd.1, hz1]) hrd.news (by omega) (by omega) (growslice_fits (by omega) (by rw [hz2]; omega))
    have hge := grownCap_ge w (n + m) cap 5
    have hcm : grownCap w (n + m) cap 5 ≤ maxLen := grownCap_le_maxLen w (n + m) cap 5 (by simp [maxLen]; omega)
    refine ⟨_, _, hr, ⟨by simp [hlx, hrd.1], .inr ⟨w.heap.size, _, _, rfl, hbase, heap_alloc_new w.drew _, hge, hcm, ?_, ?_⟩⟩, ⟨rfl, rfl, rfl, by simp, fun k hk _ => Below.heap_alloc w.drew _ k hk⟩, ?_⟩
    · simp only [Array.size_append, List.size_toArray, size_zeroCells, List.length_map, hlx, hrd.1, Value.cells]
      simp
      omega
    · simp only [Array.toList_append, List.append_assoc, Nat.mul_one]
      rw [← List.append_assoc, List.take_left' (by simp [hlx, hrd.1]), List.map_append]
    · exact hown.below (((Below.refl w.heap.size w).drew).alloc (Nat.le_refl _) _)

theorem wpList_append_keep {w : World} {ops : Array Oper} {rest : List Oper} {o : Oper} {a : Act} {Q : Exit → Act → World → Prop} (hgd : o.guard = none) (s x : Operand)
    (ho : o.op = .call { callee := .builtin .append, args := #[s, x], argTypes := #[25, 25] })
    (B g n cap : Nat) (xs : List Int) (hs : a.eval s = .slice (some ⟨g, 0, none⟩) n cap) (hown : Own w B g n cap xs)
    (ad : Addr) (m c : Nat) (zs : List Int) (hx : a.eval x = .slice (some ad) m c) (hrd : Reads w (some ad) m zs)
    (hb : n + m ≤ 140737488355328) (hbase : B ≤ w.heap.size)
    (h : ∀ v' w', w'.ownsRow B 5 1 v' (n + m) ((xs ++ zs).map (Value.int .u8)) → w.grownBy w' (some g) → Own w' B g n cap xs → wpList Tryd.prog ops Q rest (a.put o.dst v') w') : wpList Tryd.prog ops Q (o :: rest) a w := by
  obtain ⟨v', w', hr, h1, h2, h3⟩ := run_append_keep o.type B g n cap xs hown ad m c zs hrd hb hbase
  refine wpList_plain hgd fun K hK => ?_
  unfold Oper.wp
  simp [execOp, ho, resolve, invoke, builtin, hs, hx, hr, Result.andThen]
  exact hK _ _ (h v' w' h1 h2 h3)

theorem room_range (zs : List Int) (k : Nat) (h : ∀ x ∈ zs, 0 ≤ x ∧ x ≤ 255) : ∀ x ∈ room zs k, 0 ≤ x ∧ x ≤ 255 := by
  intro x hx
  rcases List.mem_append.1 hx with h1 | h1
  · exact h x h1
  · have := (List.mem_replicate.1 h1).2; omega

theorem layN_le (n : Nat) : layN n ≤ 170 := by unfold layN; omega

theorem layL_range (zs : List Int) : ∀ x ∈ layL zs, 0 ≤ x ∧ x ≤ 255 := by
  intro x hx
  obtain ⟨z, _, hz⟩ := List.mem_flatMap.1 hx
  have h1 := layN_le z.toNat
  have h2 := layN_le (z / 16).toNat
  simp [layB] at hz
  rcases hz with rfl | rfl <;> omega

theorem Own.apart {w w' : World} {B g n cap g' : Nat} {xs : List Int} (h : Own w B g n cap xs) (hg : w.grownBy w' (some g')) (hne : g ≠ g') : Own w' B g n cap xs :=
  World.ownsRow.kept h hg (Or.inr (by simp [Value.ownBlock]; exact hne))

theorem Own.all {w : World} {B g n cap : Nat} {xs : List Int} (h : Own w B g n cap xs) (hr : ∀ x ∈ xs, 0 ≤ x ∧ x ≤ 255) : Reads w (some ⟨g, 0, none⟩) n xs := by
  have h1 := h.reads hr n (Nat.le_refl _)
  have hl := h.len
  rwa [List.take_of_length_le (by omega)] at h1

theorem Reads.grown {w w' : World} {a : Option Addr} {len g' B : Nat} {zs : List Int} {u : World} (h : Reads u a len zs) (hb : Below u.heap.size u w) (hg : w.grownBy w' (some g')) (hB : u.heap.size ≤ g') : Reads w' a len zs :=
  h.below (hb.grown hg hb.size (fun k hk => by cases hk; exact hB))

theorem fill_step (L : List Int) (k : Nat) (h : k < L.length) : (List.replicate k 17 ++ L.drop k).set k 17 = List.replicate (k + 1) 17 ++ L.drop (k + 1) := by
  rw [List.set_append_right _ _ (by simp), List.length_replicate, Nat.sub_self, List.drop_eq_getElem_cons h, List.set_cons_zero, List.replicate_succ']
  simp

theorem one_reads (w : World) (z : Int) (h0 : 0 ≤ z) (h1 : z ≤ 255) : Reads (w.alloc (.cells #[.int .u8 z] 5)) (some ⟨w.heap.size, 0, none⟩) 1 [z] := by
  refine ⟨rfl, by simp; omega, (fun h => by cases h), fun x hx i hi => ?_⟩
  cases hx
  have : i = 0 := by omega
  subst this
  simp [Addr.add]

theorem lastcell {w : World} {B g c N : Nat} (h : w.ownsRow B 5 1 (.slice (some ⟨g, 0, none⟩) (N + 1) c) (N + 1) ((List.replicate N (17 : Int) ++ [34]).map (Value.int .u8))) : w.cell? ⟨g, N, none⟩ = some (.int .u8 34) := by
  rw [Own.cell (xs := List.replicate N (17 : Int) ++ [34]) h N (by omega)]
  simp [List.getD_eq_getElem?_getD]

theorem firstcell {w : World} {B g c N : Nat} (h : Own w B g N c (List.replicate N 17)) (hN : 0 < N) : w.cell? ⟨g, 0, none⟩ = some (.int .u8 17) := by
  rw [h.cell 0 hN]
  simp [List.getD_eq_getElem?_getD, hN]

end Go.Proofs.YtgdmagmbkmgdfabDoor
