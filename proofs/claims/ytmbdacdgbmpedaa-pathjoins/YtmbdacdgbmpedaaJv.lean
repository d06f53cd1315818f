/-
  SEAT Ytmbdacdgbmpedaa: PathJoins' walk, whole.
-/
import Derived.Test.YtmbdacdgbmpedaaJw
namespace Go.Proofs.Ytmbdacdgbmpedaa
open Go.RowKit
set_option linter.unusedVariables false

abbrev m12 : List ByteArray := [⟨#[109, 49]⟩, ⟨#[109, 50]⟩]
theorem Ow.frozen {w : World} {B g n c : Nat} {xs : List ByteArray} (h : Ow w B (.slice (some ⟨g, 0, none⟩) n c) xs) (hn : xs.length = n) (j : Nat) : w.frozen? ⟨g, j, none⟩ = false := by
  subst hn
  exact World.ownsRow.frozenAt h j
theorem wpList_append_rdm {w : World} {ops : Array Oper} {rest : List Oper} {o : Oper} {a : Act} {Q : Exit → Act → World → Prop} (hgd : o.guard = none) (s x : Operand)
    (ho : o.op = .call { callee := .builtin .append, args := #[s, x], argTypes := #[22, 22] })
    (base : Nat) (v : Value) (xs : List ByteArray) (hs : a.eval s = v) (hown : Ow w base v xs)
    (ad : Option Addr) (c m : Nat) (ys : List ByteArray) (hx : a.eval x = .slice ad m c) (hrd : RdS w ad m ys)
    (hbytes : (xs.length + m) * 16 ≤ 140737488355328) (hbase : base ≤ w.heap.size)
    (h : ∀ v' w', Ow w' base v' (xs ++ ys) → w.grownBy w' v.ownBlock → wpList Try.prog ops Q rest (a.put o.dst v') w') : wpList Try.prog ops Q (o :: rest) a w := by
  obtain rfl := hrd.len
  exact wpList_append_rd hgd s x ho base v xs hs hown ad c ys hx hrd hbytes hbase h
theorem RdS.of_vw {w : World} {a : Option Addr} {c : Nat} {xs : List ByteArray} (h : Vw w (.slice a xs.length c) xs) : RdS w a xs.length xs := by
  obtain ⟨a', c', he, _, _, rd, _⟩ := h
  cases he
  exact rd
theorem mix_mem {k : Nat} {ys xs : List ByteArray} {n : Nat} (h1 : ∀ x ∈ ys, x.size ≤ n) (h2 : ∀ x ∈ xs, x.size ≤ n) : ∀ x ∈ mix k ys xs, x.size ≤ n := fun x hx => by
  rcases List.mem_append.1 hx with h | h
  · exact h1 x (List.mem_of_mem_take h)
  · exact h2 x (List.mem_of_mem_drop h)

set_option maxHeartbeats 4000000 in
set_option maxRecDepth 100000 in
theorem joins_walk (a0 : Option Addr) (c0 : Nat) (xs : List ByteArray) (a1 : Option Addr) (c1 : Nat) (ys : List ByteArray) (w : World) (h0 : Vw w (.slice a0 xs.length c0) xs) (b0 : ∀ x ∈ xs, x.size ≤ 9223372036854775807) (s0 : xs.length * 16 ≤ 140737488351232)
    (h1 : Vw w (.slice a1 ys.length c1) ys) (b1 : ∀ x ∈ ys, x.size ≤ 9223372036854775807) (s1 : ys.length * 16 ≤ 140737488351232) :
    Calls Try.prog 3 #[.slice a0 xs.length c0, .slice a1 ys.length c1] w fun e w' => e = .returned (.bool true) ∧ Below w.heap.size w w' := by
  have H0 : Hid (Vw w (.slice a0 xs.length c0) xs) := h0
  have H1 : Hid (Vw w (.slice a1 ys.length c1) ys) := h1
  have BD0 : Hid (∀ x ∈ xs, x.size ≤ 9223372036854775807) := b0
  have BD1 : Hid (∀ x ∈ ys, x.size ≤ 9223372036854775807) := b1
  have R1 : Hid (RdS w a1 ys.length ys) := RdS.of_vw h1
  clear h0 h1 b0 b1
  obtain ⟨J, gJ⟩ : ∃ J, joS xs = J := ⟨_, rfl⟩
  obtain ⟨E, gE⟩ : ∃ E, joE xs = E := ⟨_, rfl⟩
  have z1 : ([] ++ xs : List ByteArray) = xs := rfl
  have bel0 : Below w.heap.size w (w.alloc (.cells #[] 9)) := (Below.refl _ _).alloc (Nat.le_refl _) _
  have RD0 : Hid (RdS (w.alloc (.cells #[] 9)) a0 xs.length xs) := (RdS.of_vw H0.out).below bel0
  have HB0 : Hid (Below w.heap.size w (w.alloc (.cells #[] 9))) := bel0
  have n1 : (0 + xs.length) * 16 ≤ 140737488355328 := by omega
  have n2 : (xs.length + 2) * 16 ≤ 140737488355328 := by omega
  have n3 : w.heap.size ≤ (w.alloc (.cells #[] 9)).heap.size := by simp
  have T1 : Hid True := trivial
  have T2 : Hid True := trivial
  clear bel0
  go_enter Try.func3, Try.ntmps3
  go_wp2_with (first
    | (go_at_call 4; refine (rjoin_any _ xs _ H0.out BD0.out).mono ?_; rintro e u ⟨rfl, hu⟩; rw [hu, gJ, gE]; clear hu)
    | (at_builtin; have h9 := T1; clear h9; refine wpList_append_rd rfl (.tmp 19) (.tmp 20) rfl w.heap.size _ [] rfl (ow_made w) _ _ xs rfl RD0.out n1 n3 ?_; intro v1 w1 own1 grow1; rw [z1] at own1; have O1 : Hid (Ow w1 w.heap.size v1 xs) := own1; have B1 : Hid (Below w.heap.size w w1) := HB0.out.grown grow1 n3 (fun k hk => ((ow_made w).at k hk).1); clear own1 grow1 T1)
    | (at_builtin; refine wpList_append_rd rfl (.tmp 21) (.tmp 22) rfl w.heap.size _ xs rfl (O1.out.alloc _) _ 2 m12 rfl (rd_two w1 _ _) n2 (by have := B1.out.size; simp; omega) ?_; intro v2 w2 own2 grow2; obtain ⟨g, c, rfl, hc2, hm2, hbg, hgl⟩ := own2.shape (by simp [m12]); have B2 : Hid (Below w.heap.size w w2) := (B1.out.alloc B1.out.size _).grown grow2 (by have := B1.out.size; simp; omega) (fun k hk => (O1.out.at k hk).1); have O2 : Hid (Ow w2 w.heap.size (.slice (some ⟨g, 0, none⟩) (xs ++ m12).length c) (xs ++ m12)) := own2; clear own2 grow2; simp only [List.length_append, m12, List.length_cons, List.length_nil, Nat.zero_add, Nat.reduceAdd] at hc2 ⊢)
    | (go_at_call 5; have h9 := T2; clear h9; refine (join_any _ xs _ (Ow.vw (Ow.front O2.out rfl)) BD0.out).mono ?_; rintro e w3 ⟨rfl, bel⟩; rw [gJ, gE]; have B3 : Hid (Below w2.heap.size w2 w3) := bel; clear bel T2)
    | (go_at_call 6; refine (same_eq _ _ xs _ ((Ow.vw (Ow.front O2.out rfl)).below B3.out) (H0.out.below (B2.out.trans (B3.out.mono B2.out.size)))).mono ?_; rintro e w4 ⟨rfl, bel⟩; have B4 : Hid (Below w2.heap.size w2 w4) := B3.out.trans (bel.mono B3.out.size); have O4 : Hid (Ow w4 w.heap.size (.slice (some ⟨g, 0, none⟩) (xs ++ m12).length c) (xs ++ m12)) := O2.out.below B4.out; have kc1 := O4.out.cell rfl xs.length ⟨#[109, 49]⟩ (by simp [m12]); have kc2 := O4.out.cell rfl (xs.length + 1) ⟨#[109, 50]⟩ (by simp [m12]); have B5 : Hid (Below w.heap.size w w4) := B2.out.trans (B4.out.mono B2.out.size); clear bel B3 O2 B2 B4))
  clear kc1 kc2
  go_loopw [11] (fun i wr => ∃ k : Nat, k ≤ xs.length ∧ k ≤ ys.length ∧ i = .int .i64 k ∧ Ow wr w.heap.size (.slice (some ⟨g, 0, none⟩) (xs.length + 2) c) (mix k ys xs ++ m12) ∧ Below w.heap.size w wr) (fun i _ => xs.length - (intOf i).toNat)
  case atStart => exact ⟨0, Nat.zero_le _, Nat.zero_le _, rfl, by simpa [mix] using O4.out, B5.out⟩
  case round =>
    obtain ⟨k, hk, hk', rfl, own, bel⟩ := hrel
    clear O4 B5
    have hbb := bel.size
    have HO : Hid (Ow wr w.heap.size (.slice (some ⟨g, 0, none⟩) (xs.length + 2) c) (mix k ys xs ++ m12)) := own
    have HB : Hid (Below w.heap.size w wr) := bel
    have hml : (mix k ys xs ++ m12).length = xs.length + 2 := by rw [List.length_append, mix_len hk' hk]; rfl
    by_cases hlt : k < xs.length
    · by_cases hlt' : k < ys.length
      · have d1 : decide ((k : Int) < (xs.length : Int)) = true := decide_eq_true (by omega)
        have d2 : decide ((k : Int) < (ys.length : Int)) = true := decide_eq_true (by omega)
        have hfz := own.frozen hml k
        cases a1 with
        | none => have := R1.out.nil rfl; omega
        | some x1 =>
          have hc := (R1.out.below bel).at hlt'
          obtain ⟨y, hy⟩ : ∃ y, ys[k] = y := ⟨_, rfl⟩
          rw [hy] at hc
          have hold := own.cell hml k ((mix k ys xs ++ m12)[k]'(by omega)) (List.getElem?_eq_getElem _)
          obtain ⟨q, hq⟩ : ∃ q, (mix k ys xs ++ m12)[k]'(by omega) = q := ⟨_, rfl⟩
          rw [hq] at hold
          have hset := own.set hml k y
          rw [mix_step hlt' hlt hy] at hset
          have HS : Hid (Ow (wr.setCell ⟨g, k, none⟩ (.string y)) w.heap.size (.slice (some ⟨g, 0, none⟩) (xs.length + 2) c) (mix (k + 1) ys xs ++ m12)) := hset.1
          have HBS : Hid (Below w.heap.size w (wr.setCell ⟨g, k, none⟩ (.string y))) := bel.setCell (p := ⟨g, k, none⟩) hbg _
          have hkc : k < c := by omega
          clear own bel hset hy hq hml
          go_wp2
          go_roundw
          case rel => exact ⟨k + 1, by omega, by omega, by go_num, HS.out, HBS.out⟩
          case measure => simp [intOf]; omega
      · have d1 : decide ((k : Int) < (xs.length : Int)) = true := decide_eq_true (by omega)
        have d2 : decide ((k : Int) < (ys.length : Int)) = false := decide_eq_false (by omega)
        obtain ⟨zs, hzs⟩ : ∃ zs, mix k ys xs = zs := ⟨_, rfl⟩
        have hzl : zs.length = xs.length := by rw [← hzs]; exact mix_len hk' hk
        have HZ : Hid (∀ x ∈ zs, x.size ≤ 9223372036854775807) := by rw [← hzs]; exact mix_mem BD1.out BD0.out
        rw [hzs] at own HO
        have own' : Ow wr w.heap.size (.slice (some ⟨g, 0, none⟩) (zs ++ m12).length c) (zs ++ m12) := by rw [← hzs, hml]; rw [← hzs] at own; exact own
        have FR : Hid (Ow wr w.heap.size (.slice (some ⟨g, 0, none⟩) xs.length c) zs) := Ow.front own' hzl
        obtain ⟨K2, gK⟩ : ∃ J, joS zs = J := ⟨_, rfl⟩
        obtain ⟨F2, gF⟩ : ∃ J, joE zs = J := ⟨_, rfl⟩
        have bel1 : Below wr.heap.size wr (wr.alloc (.cells #[] 9)) := (Below.refl _ _).alloc (Nat.le_refl _) _
        have RDz : Hid (RdS (wr.alloc (.cells #[] 9)) (some ⟨g, 0, none⟩) xs.length zs) := by
          have h := (Ow.vw FR.out).below bel1
          rw [← hzl] at h ⊢
          exact RdS.of_vw h
        have HB1 : Hid (Below wr.heap.size wr (wr.alloc (.cells #[] 9))) := bel1
        have FV : Hid (∀ u, Below wr.heap.size wr u → Vw u (.slice (some ⟨g, 0, none⟩) xs.length c) zs) := fun u hu => (Ow.vw FR.out).below hu
        have m1 : (0 + xs.length) * 16 ≤ 140737488355328 := by omega
        have m3 : wr.heap.size ≤ (wr.alloc (.cells #[] 9)).heap.size := by simp
        have z2 : ([] ++ zs : List ByteArray) = zs := rfl
        clear own own' bel bel1 hzs hml hzl
        go_wp2_with (first
          | (at_builtin; refine wpList_append_rdm rfl (.tmp 83) (.tmp 84) rfl wr.heap.size _ [] rfl (ow_made wr) _ _ xs.length zs rfl RDz.out m1 m3 ?_; intro v5 w5 own5 grow5; rw [z2] at own5; have O5 : Hid (Ow w5 wr.heap.size v5 zs) := own5; have B6 : Hid (Below wr.heap.size wr w5) := HB1.out.grown grow5 m3 (fun k hk => ((ow_made wr).at k hk).1); clear own5 grow5)
          | (go_at_call 4; refine (rjoin_any _ zs _ (Ow.vw O5.out) HZ.out).mono ?_; rintro e u ⟨rfl, hu⟩; rw [hu, gK, gF]; clear hu)
          | (go_at_call 5; refine (join_any _ zs _ (FV.out _ B6.out) HZ.out).mono ?_; rintro e w6 ⟨rfl, bel⟩; rw [gK, gF]; have B7 : Hid (Below w5.heap.size w5 w6) := bel; clear bel))
        go_ret
        refine ⟨ret_bool (by simp), ?_⟩
        have q1 : Below w.heap.size w w5 := HB.out.trans (B6.out.mono hbb)
        exact q1.trans (B7.out.mono q1.size)
    · have d1 : decide ((k : Int) < (xs.length : Int)) = false := decide_eq_false (by omega)
      obtain ⟨zs, hzs⟩ : ∃ zs, mix k ys xs = zs := ⟨_, rfl⟩
      have hzl : zs.length = xs.length := by rw [← hzs]; exact mix_len hk' hk
      have HZ : Hid (∀ x ∈ zs, x.size ≤ 9223372036854775807) := by rw [← hzs]; exact mix_mem BD1.out BD0.out
      rw [hzs] at own HO
      have own' : Ow wr w.heap.size (.slice (some ⟨g, 0, none⟩) (zs ++ m12).length c) (zs ++ m12) := by rw [← hzs, hml]; rw [← hzs] at own; exact own
      have FR : Hid (Ow wr w.heap.size (.slice (some ⟨g, 0, none⟩) xs.length c) zs) := Ow.front own' hzl
      obtain ⟨K2, gK⟩ : ∃ J, joS zs = J := ⟨_, rfl⟩
      obtain ⟨F2, gF⟩ : ∃ J, joE zs = J := ⟨_, rfl⟩
      have bel1 : Below wr.heap.size wr (wr.alloc (.cells #[] 9)) := (Below.refl _ _).alloc (Nat.le_refl _) _
      have RDz : Hid (RdS (wr.alloc (.cells #[] 9)) (some ⟨g, 0, none⟩) xs.length zs) := by
        have h := (Ow.vw FR.out).below bel1
        rw [← hzl] at h ⊢
        exact RdS.of_vw h
      have HB1 : Hid (Below wr.heap.size wr (wr.alloc (.cells #[] 9))) := bel1
      have FV : Hid (∀ u, Below wr.heap.size wr u → Vw u (.slice (some ⟨g, 0, none⟩) xs.length c) zs) := fun u hu => (Ow.vw FR.out).below hu
      have m1 : (0 + xs.length) * 16 ≤ 140737488355328 := by omega
      have m3 : wr.heap.size ≤ (wr.alloc (.cells #[] 9)).heap.size := by simp
      have z2 : ([] ++ zs : List ByteArray) = zs := rfl
      clear own own' bel bel1 hzs hml hzl
      go_wp2_with (first
        | (at_builtin; refine wpList_append_rdm rfl (.tmp 83) (.tmp 84) rfl wr.heap.size _ [] rfl (ow_made wr) _ _ xs.length zs rfl RDz.out m1 m3 ?_; intro v5 w5 own5 grow5; rw [z2] at own5; have O5 : Hid (Ow w5 wr.heap.size v5 zs) := own5; have B6 : Hid (Below wr.heap.size wr w5) := HB1.out.grown grow5 m3 (fun k hk => ((ow_made wr).at k hk).1); clear own5 grow5)
        | (go_at_call 4; refine (rjoin_any _ zs _ (Ow.vw O5.out) HZ.out).mono ?_; rintro e u ⟨rfl, hu⟩; rw [hu, gK, gF]; clear hu)
        | (go_at_call 5; refine (join_any _ zs _ (FV.out _ B6.out) HZ.out).mono ?_; rintro e w6 ⟨rfl, bel⟩; rw [gK, gF]; have B7 : Hid (Below w5.heap.size w5 w6) := bel; clear bel))
      go_ret
      refine ⟨ret_bool (by simp), ?_⟩
      have q1 : Below w.heap.size w w5 := HB.out.trans (B6.out.mono hbb)
      exact q1.trans (B7.out.mono q1.size)

end Go.Proofs.Ytmbdacdgbmpedaa
