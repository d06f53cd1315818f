/-
  SEAT Ytkcpfcnpniblcab: Hex.
-/
import Derived.Test.YtkcpfcnpniblcabHx
import Derived.Laws.OwnMore
namespace Go.Proofs.Ytkcpfcnpniblcab
open Go.RowKit
set_option linter.unusedVariables false

/-- append within a row's room, at a step of a region that draws. -/
theorem step_append_fits {ops : Array Oper} {o : Oper} {a : Act} {K : Act → World → Prop} {Q : Exit → Act → World → Prop} {E : Prop} {w : World} (hgd : o.guard = none) (s x : Operand)
    (ho : o.op = .call { callee := .builtin .append, args := #[s, x], argTypes := #[22, 22] })
    (B g n cap : Nat) (xs : List Value) (hs : a.eval s = .slice (some ⟨g, 0, none⟩) n cap) (hown : w.ownsRow B 5 1 (.slice (some ⟨g, 0, none⟩) n cap) n xs)
    (ad : Addr) (m c : Nat) (news : List Value) (hx : a.eval x = .slice (some ad) m c) (hl : news.length = m) (hnews : ∀ j u, news[j]? = some u → w.cell? (ad.add j) = some u) (h1 : ∀ u ∈ news, u.oneCell' = true)
    (hroom : n + m ≤ cap)
    (h : ∀ w', w'.ownsRow B 5 1 (.slice (some ⟨g, 0, none⟩) (n + m) cap) (n + m) (xs ++ news) → w.grownBy w' (some g) → K (a.put o.dst (.slice (some ⟨g, 0, none⟩) (n + m) cap)) w') :
    if Region.wanted o (yielded ops a.tmps) = true then Oper.wp Try.prog o a w K Q else E := by
  have hw : Region.wanted o (yielded ops a.tmps) = true := by simp [Region.wanted, hgd]
  rw [if_pos hw]
  obtain ⟨i0, hi, hz0, hz1, hz2⟩ := info_parts info5
  obtain ⟨w', hr, h2, h3⟩ := run_append_fits (P := Try.prog) w B 22 o.type 5 i0 1 Try.underlying22 hi hz1 g n cap xs hown ad m c news (by omega) hnews h1 hroom
  unfold Oper.wp execOp
  simp only [ho, resolve, invoke, builtin, Sem.run_bind, Sem.run_pure, Result.andThen_ok, List.map_toArray, List.map_cons, List.map_nil, hs, hx, hr]
  exact h w' h2 h3

theorem two_news (w : World) (y z : Int) : ∀ j u, [Value.int .u8 y, Value.int .u8 z][j]? = some u → (w.alloc (.cells #[.int .u8 y, .int .u8 z] 5)).cell? ((⟨w.heap.size, 0, none⟩ : Addr).add j) = some u := by
  intro j u hj
  match j, hj with
  | 0, hj => simp at hj; subst hj; simp [Addr.add]
  | 1, hj => simp at hj; subst hj; simp [Addr.add]

set_option maxHeartbeats 400000 in
theorem hex_any (a : Option Addr) (l cap : Nat) (zs : List Int) (w : World) (hl : l ≤ 140737488351232) (h : Reads w a l zs) :
    Calls Try.prog 17 #[.slice a l cap] w fun e w' => e = .returned (.string (strOfNums (hexL zs))) ∧ Below w.heap.size w w' := by
  obtain ⟨i0, hi, hz0, hz1, hz2⟩ := info_parts info5
  have hlen := h.1
  have hmk : ∀ u : World, (Instr.makeSlice 22 (.int .i64 0) (.int .i64 (2 * (l : Int)))).run Try.prog u =
      .ok (.slice (some ⟨u.heap.size, 0, none⟩) 0 (2 * l)) (u.alloc (.cells (madeCells #[.int .u8 0] (2 * l)) 5)) := fun u => by
    have h := run_make (P := Try.prog) u 22 5 i0 (.int .u8 0) Try.underlying22 hi hz0 .i64 .i64 0 (2 * (l : Int)) (by omega) (by omega) (by rw [hz2]; omega) (by omega)
    have e : (2 * (l : Int)).toNat = 2 * l := by omega
    rw [e] at h
    simpa [hz1, Value.cells] using h
  go_enter Try.func17, Try.ntmps17
  go_wp2
  go_loopw [3, 12] (fun v i wr => ∃ k : Nat, k ≤ l ∧ i = .int .i64 k ∧ v = .slice (some ⟨w.heap.size, 0, none⟩) (2 * k) (2 * l) ∧ Own wr w.heap.size w.heap.size (2 * k) (2 * l) (hexL (zs.take k)) ∧ Below w.heap.size w wr)
    (fun _ i _ => l - (intOf i).toNat)
  case atStart => exact ⟨0, Nat.zero_le _, rfl, rfl, by simpa [Own, hexL] using World.ownsRow_made w (madeCells #[.int .u8 0] (2 * l)) (2 * l) (Nat.le_refl _) (by simp [maxLen]; omega) (by simp [madeCells]), (Below.refl w.heap.size w).alloc (Nat.le_refl _) _⟩
  case round =>
    obtain ⟨k, hk, rfl, rfl, hown, hbel⟩ := hrel
    by_cases hlt : k < l
    · obtain ⟨b, off, rfl, hb, hcell⟩ := h.pos (by omega)
      obtain ⟨z, hz⟩ : ∃ z, z = zs.getD k 0 := ⟨_, rfl⟩
      have hcx : wr.cell? ⟨b, off + k, none⟩ = some (.int .u8 z) := by rw [hz]; exact (hbel.cell (by exact hb)).trans (hcell k hlt)
      obtain ⟨hz3, hz4⟩ : 0 ≤ z ∧ z ≤ 255 := by rw [hz]; exact byteAt h.2.1 _
      have HL : Hid (hexL (zs.take (k + 1)) = hexL (zs.take k) ++ [hexD (z / 16), hexD (z % 16)]) := by unfold Hid; rw [hexL_take zs k (by omega), hz]
      have e15 : bits .and .u8 z 15 = z % 16 := u8_and15 z hz3 (by omega)
      have ixA : ∀ u, (Instr.index 9 (.string ⟨#[48, 49, 50, 51, 52, 53, 54, 55, 56, 57, 97, 98, 99, 100, 101, 102]⟩) (.int .u8 (z / 16))).run Try.prog u = .ok (.int .u8 (hexD (z / 16))) u := fun u => ix16 _ (by omega) (by omega) u
      have ixB : ∀ u, (Instr.index 9 (.string ⟨#[48, 49, 50, 51, 52, 53, 54, 55, 56, 57, 97, 98, 99, 100, 101, 102]⟩) (.int .u8 (z % 16))).run Try.prog u = .ok (.int .u8 (hexD (z % 16))) u := fun u => ix16 _ (by omega) (by omega) u
      have hsz := hbel.size
      have i2 : (k : Int) < (l : Int) := by omega
      unfold Own at hown
      clear hcell h hlen hz
      go_wp2
      go_region_held3 (fun w' => True)
        (first | trivial | go_keep)
        (first
          | (refine step_append_fits (by rfl) _ _ (by rfl) w.heap.size w.heap.size (2 * k) (2 * l) _ (by rfl) ((hown.alloc _).drew) ⟨wr.heap.size, 0, none⟩ 2 2 [.int .u8 (hexD (z / 16)), .int .u8 (hexD (z % 16))] (by rfl) (by rfl) (two_news wr _ _) (by simp [Value.oneCell']) (by omega) ?_; intro w1 hown1 hgrow1))
      all_goals
        have hown2 : Own w1 w.heap.size w.heap.size (2 * (k + 1)) (2 * l) (hexL (zs.take (k + 1))) := by
          unfold Own
          rw [HL.out, List.map_append]
          exact hown1
        have hbel2 : Below w.heap.size w w1 := ((hbel.alloc hbel.size _).drew).grown hgrow1 (by simp; omega) (fun k hk => by cases hk; exact Nat.le_refl _)
        clear hown1 hgrow1 hown hcx
        go_wp2
        exact ⟨⟨k + 1, by omega, by go_num, by rw [Nat.mul_add], hown2, hbel2⟩, by simp [intOf]; omega⟩
    · have hkl : k = l := by omega
      subst hkl
      rw [List.take_of_length_le (by omega)] at hown
      have hcv := conv (some ⟨w.heap.size, 0, none⟩) (2 * k) (2 * k) (hexL zs) wr (by
        have := hown.reads (hexL_range h.2.1) (2 * k) (Nat.le_refl _)
        rwa [List.take_of_length_le (by rw [hexL_length]; omega)] at this)
      go_wp2
      go_ret
      exact ⟨rfl, hbel⟩

def S0 : ByteArray := ⟨#[48, 49, 50, 51, 52, 53, 54, 55, 56, 57, 97, 98, 99, 100, 101, 102]⟩
/-- One digit cut out of the text of all. -/
theorem cut16 (n : Int) (h0 : 0 ≤ n) (h1 : n < 16) : S0.extract n.toNat (n.toNat + 1) = strOfNums [hexD n] := by
  obtain ⟨m, rfl⟩ := Int.eq_ofNat_of_zero_le h0
  have hm : m < 16 := by omega
  have key : ∀ m : Fin 16, (S0.extract m.val (m.val + 1)).data.toList = (strOfNums [hexD m.val]).data.toList := by decide
  exact bytes_ext (key ⟨m, hm⟩)
theorem sl16 (n : Int) (h0 : 0 ≤ n) (h1 : n < 16) (u : World) : (Instr.slice 9 (.string ⟨#[48, 49, 50, 51, 52, 53, 54, 55, 56, 57, 97, 98, 99, 100, 101, 102]⟩) (some (.int .u8 n)) (some (.int .u8 (n + 1))) none).run Try.prog u = .ok (.string (strOfNums [hexD n])) u := by
  have hc : (⟨#[48, 49, 50, 51, 52, 53, 54, 55, 56, 57, 97, 98, 99, 100, 101, 102]⟩ : ByteArray).extract n.toNat (n.toNat + 1) = strOfNums [hexD n] := cut16 n h0 h1
  have hs : (⟨#[48, 49, 50, 51, 52, 53, 54, 55, 56, 57, 97, 98, 99, 100, 101, 102]⟩ : ByteArray).size = 16 := rfl
  have e1 : (n + 1).toNat = n.toNat + 1 := by omega
  have c1 : n + 1 ≤ 16 := by omega
  have c2 : 0 ≤ n + 1 := by omega
  have c3 : n ≤ (n.toNat : Int) + 1 := by omega
  have c4 : n ≤ max n 0 + 1 := by omega
  simp [Instr.slice, Instr.sliceBounds, Instr.sliceBound, run_underlying Try.underlying9, asIntOf, go_sem, hs, h0, c1, c2, c4, e1, hc]

theorem str_append (a b : List Int) : strOfNums a ++ strOfNums b = strOfNums (a ++ b) := by
  refine bytes_ext ?_
  rw [ByteArray.data_append, Array.toList_append, strOfNums_data, strOfNums_data, strOfNums_data, List.map_append]

set_option maxHeartbeats 400000 in
theorem rhex_any (a : Option Addr) (l cap : Nat) (zs : List Int) (w : World) (hl : l ≤ 140737488351232) (h : Reads w a l zs) :
    Calls Try.prog 18 #[.slice a l cap] w fun e w' => e = .returned (.string (strOfNums (hexL zs))) ∧ Below w.heap.size w w' := by
  have hlen := h.1
  have hnil : strOfNums [] = ⟨#[]⟩ := rfl
  go_enter Try.func18, Try.ntmps18
  go_wp2
  go_loopw [4, 5] (fun v i wr => ∃ k j : Nat, k ≤ l ∧ i = .int .i64 k ∧ v = .string (strOfNums (hexL (zs.take k))) ∧ wr = w.drewN j)
    (fun _ i _ => l - (intOf i).toNat)
  case atStart => exact ⟨0, 0, Nat.zero_le _, rfl, by simp [hexL, hnil], rfl⟩
  case round =>
    obtain ⟨k, j, hk, rfl, rfl, rfl⟩ := hrel
    by_cases hlt : k < l
    · obtain ⟨b, off, rfl, hb, hcell⟩ := h.pos (by omega)
      obtain ⟨z, hz⟩ : ∃ z, z = zs.getD k 0 := ⟨_, rfl⟩
      have hcx : w.cell? ⟨b, off + k, none⟩ = some (.int .u8 z) := by rw [hz]; exact hcell k hlt
      obtain ⟨hz3, hz4⟩ : 0 ≤ z ∧ z ≤ 255 := by rw [hz]; exact byteAt h.2.1 _
      obtain ⟨S, hS⟩ : ∃ S, S = strOfNums (hexL (zs.take k)) := ⟨_, rfl⟩
      have hsz : S.size = 2 * k := by rw [hS, strOfNums_size, hexL_length]; simp; omega
      have HL : Hid (strOfNums (hexL (zs.take (k + 1))) = S ++ strOfNums [hexD (z / 16)] ++ strOfNums [hexD (z % 16)]) := by unfold Hid; rw [hexL_take zs k (by omega), hz, hS, str_append, str_append]; simp
      have i2 : (k : Int) < (l : Int) := by omega
      have hd2 : decide ((k : Int) < (l : Int)) = true := decide_eq_true i2
      have slA : ∀ u, (Instr.slice 9 (.string ⟨#[48, 49, 50, 51, 52, 53, 54, 55, 56, 57, 97, 98, 99, 100, 101, 102]⟩) (some (.int .u8 (z / 16))) (some (.int .u8 (z / 16 + 1))) none).run Try.prog u = .ok (.string (strOfNums [hexD (z / 16)])) u := fun u => sl16 _ (by omega) (by omega) u
      have slB : ∀ u, (Instr.slice 9 (.string ⟨#[48, 49, 50, 51, 52, 53, 54, 55, 56, 57, 97, 98, 99, 100, 101, 102]⟩) (some (.int .u8 (z % 16))) (some (.int .u8 (z % 16 + 1))) none).run Try.prog u = .ok (.string (strOfNums [hexD (z % 16)])) u := fun u => sl16 _ (by omega) (by omega) u
      have k1 : IntKind.u8.wrap (z / 16 + 1) = z / 16 + 1 := by rw [IntKind.wrap_u8]; omega
      have k2 : IntKind.u8.wrap (z % 16 + 1) = z % 16 + 1 := by rw [IntKind.wrap_u8]; omega
      have k5 : IntKind.u8.wrap (z / 16) = z / 16 := by rw [IntKind.wrap_u8]; omega
      have k3 : z.tdiv 16 = z / 16 := Int.tdiv_eq_ediv_of_nonneg hz3
      have k4 : z.tmod 16 = z % 16 := Int.tmod_eq_emod_of_nonneg hz3
      have sA : (strOfNums [hexD (z / 16)]).size = 1 := by rw [strOfNums_size]; rfl
      have sB : (strOfNums [hexD (z % 16)]).size = 1 := by rw [strOfNums_size]; rfl
      have sC : (S ++ strOfNums [hexD (z / 16)]).size = 2 * k + 1 := by rw [ByteArray.size_append, hsz, sA]
      have q1 : ¬ 9223372036854775807 < 2 * k + 1 := by omega
      have q2 : ¬ 9223372036854775807 < 2 * k + 1 + 1 := by omega
      rw [← hS]
      clear hcell h hlen hz hS
      go_wp2
      go_region_held3 (fun w' => w'.cell? ⟨b, off + k, none⟩ = some (.int .u8 z))
        (first | go_keep)
        (fail)
      go_wp2
      exact ⟨⟨k + 1, j + 1, by omega, by go_num, by rw [HL.out], rfl⟩, by simp [intOf]; omega⟩
    · have hkl : k = l := by omega
      subst hkl
      rw [List.take_of_length_le (by omega)]
      go_wp2
      go_ret
      exact ⟨rfl, below_drewN (Below.refl _ _) _⟩
end Go.Proofs.Ytkcpfcnpniblcab
