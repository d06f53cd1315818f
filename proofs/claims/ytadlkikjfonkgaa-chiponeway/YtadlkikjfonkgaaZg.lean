/-
  SEAT Ytadlkikjfonkgaa: Ob.
-/
import Derived.Test.YtadlkikjfonkgaaZf
import Derived.Test.YtadlkikjfonkgaaZc
import Derived.Test.YtadlkikjfonkgaaZd
namespace Go.Proofs.Ytadlkikjfonkgaa
open Go.RowKit Go.Conc
set_option linter.unusedVariables false

/-- A row among rows. -/
structure Rw where
  g : Nat
  c : Nat
  z : List Int
def Rw.val (r : Rw) : Value := .slice (some ⟨r.g, 0, none⟩) 313 r.c
structure Cl (w u : World) (v : Value) (rs : List Rw) : Prop where
  own : u.ownsRow w.heap.size 24 1 v rs.length (rs.map Rw.val)
  rows : ∀ r ∈ rs, Own u w.heap.size r.g 313 r.c r.z
theorem Cl.below {w u u' : World} {v : Value} {rs : List Rw} (h : Cl w u v rs) (hb : Below u.heap.size u u') : Cl w u' v rs :=
  ⟨owns_keep h.own (fun g hg => by obtain ⟨cs, hcs⟩ := own_tag h.own hg; exact hb.block g (lt_of_block hcs)), fun r hr => (h.rows r hr).below hb⟩
theorem Cl.lo {w u : World} {v : Value} {rs : List Rw} (h : Cl w u v rs) {j : Nat} (hj : v.ownBlock = some j) : w.heap.size ≤ j := by
  rcases h.own.2 with ⟨hv, _⟩ | ⟨g', cap, cur, hv, hb, _⟩
  · rw [hv] at hj; cases hj
  · rw [hv] at hj; cases hj; exact hb
theorem Cl.app {w u w1 : World} {v : Value} {rs : List Rw} {r : Rw} {o : Obj} {g c : Nat} (h : Cl w u v rs) (hr : Own u w.heap.size r.g 313 r.c r.z) (ho : w1.ownsRow w.heap.size 24 1 (.slice (some ⟨g, 0, none⟩) (rs.length + 1) c) (rs.length + 1) (rs.map Rw.val ++ [r.val])) (hg : (u.alloc o).grownBy w1 v.ownBlock) : Cl w w1 (.slice (some ⟨g, 0, none⟩) (rs.length + 1) c) (rs ++ [r]) := by
  have hal := below_alloc u o
  have key : ∀ q : Rw, Own u w.heap.size q.g 313 q.c q.z → Own w1 w.heap.size q.g 313 q.c q.z := fun q hq => by
    have h1 := hq.below hal
    refine own_grown h1 hg (fun e => ?_)
    obtain ⟨cs, hcs⟩ := own_tag (h.below hal).own e.symm
    obtain ⟨cs2, hcs2⟩ := own_tag h1 (g := q.g) rfl
    exact tag_ne hcs hcs2 (t := 24) (u := 5) rfl rfl (by decide) rfl
  refine ⟨?_, fun q hq => ?_⟩
  · rw [List.map_append, List.length_append]; exact ho
  · rcases List.mem_append.1 hq with h9 | h9
    · exact key q (h.rows q h9)
    · simp at h9; subst h9; exact key _ hr
def tbl (C : Ch) (n : Nat) : List (List Int) := (List.range n).map (fun m => readL C (m / 4) (m % 4))
structure CS (w u : World) (b4 : Nat) (v : Value) (rs : List Rw) : Prop where
  bel : Below w.heap.size w u
  cl : Cl w u v rs
  bx : u.heap[b4]? = some box8
  lo : w.heap.size ≤ b4
theorem CS.below {w u u' : World} {b4 : Nat} {v : Value} {rs : List Rw} (h : CS w u b4 v rs) (hb : Below u.heap.size u u') : CS w u' b4 v rs :=
  ⟨below_trans h.bel hb, h.cl.below hb, (hb.block _ (lt_of_block h.bx)).trans h.bx, h.lo⟩
theorem CS.app {w u w1 : World} {b4 : Nat} {v : Value} {rs : List Rw} {r : Rw} {o : Obj} {g c : Nat} (h : CS w u b4 v rs) (hr : Own u w.heap.size r.g 313 r.c r.z) (ho : w1.ownsRow w.heap.size 24 1 (.slice (some ⟨g, 0, none⟩) (rs.length + 1) c) (rs.length + 1) (rs.map Rw.val ++ [r.val])) (hg : (u.alloc o).grownBy w1 v.ownBlock) : CS w w1 b4 (.slice (some ⟨g, 0, none⟩) (rs.length + 1) c) (rs ++ [r]) := by
  have hal := below_alloc u o
  have h1 := h.below hal
  refine ⟨h1.bel.grown hg h1.bel.size (fun j hj => h.cl.lo hj), h.cl.app hr ho hg, (hg.block _ (lt_of_block h1.bx) (fun e => ?_)).trans h1.bx, h.lo⟩
  obtain ⟨cs, hcs⟩ := own_tag h1.cl.own e.symm
  exact tag_ne hcs h1.bx (t := 24) (u := 23) rfl rfl (by decide) rfl
theorem news_row (w : World) (v : Value) : ∀ j u, [v][j]? = some u → (w.alloc (.cells #[v] 24)).cell? ((⟨w.heap.size, 0, none⟩ : Addr).add j) = some u := by
  intro j u hj
  cases j with
  | succ j => simp at hj
  | zero =>
  simp at hj
  subst hj
  rw [plain_add]
  exact cells1 (alloc_new w (.cells #[v] 24))
theorem infoR : (Try.prog.info? 24).map (fun i => (i.zero, i.size, i.bytes)) = some (some (.slice none 0 0), 1, 24) := by kernel_rfl
theorem geo8 (w : World) (p : Nat) (F : Nat → Prop) (C : Ch) (h : ChipAt w p F C) (hB : C.B = 8) (hP : C.P = 4) (hS : C.S = 1) : Calls Try.prog 60 #[.pointer (some ⟨p, 0, none⟩)] w fun e w' => e = .returned (.agg #[.int .i64 8, .int .i64 4, .int .i64 1]) ∧ Below w.heap.size w w' := by
  refine (geometry_any w p F C h).mono ?_
  rintro e w' ⟨rfl, hb⟩
  rw [hB, hP, hS]
  exact ⟨rfl, hb⟩
theorem tbl_succ (C : Ch) (i k : Nat) (hk : k < 4) : tbl C (i * 4 + (k + 1)) = tbl C (i * 4 + k) ++ [readL C i k] := by
  unfold tbl
  rw [← Nat.add_assoc, List.range_succ, List.map_append]
  simp only [List.map_cons, List.map_nil]
  rw [show (i * 4 + k) / 4 = i by omega, show (i * 4 + k) % 4 = k by omega]
set_option maxHeartbeats 4000000 in
set_option maxRecDepth 100000 in
theorem cells_any (w : World) (p : Nat) (F : Nat → Prop) (C : Ch) (h : ChipAt w p F C) (hok : C.Ok) (hd : C.dark = false) (hB : C.B = 8) (hP : C.P = 4) (hS : C.S = 1) :
    Calls Try.prog 24 #[.pointer (some ⟨p, 0, none⟩)] w fun e w' => ∃ v rs, e = .returned v ∧ Cl w w' v rs ∧ rs.map Rw.z = tbl C 32 ∧ Below w.heap.size w w' := by
  have HC := hide h
  have HPG : Hid (pgB C.S = 313) := by show pgB C.S = 313; rw [hS]; rfl
  have HBP : Hid (C.B = 8 ∧ C.P = 4 ∧ C.S = 1) := ⟨hB, hP, hS⟩
  have HOK := hide hok
  have HD := hide hd
  obtain ⟨i0, hi0, hz0, hz1, hz2⟩ := info_parts infoR
  clear h hB hP hS hok hd
  go_enter Try.func24, Try.ntmps24
  go_upto_region 3 with (first
    | (go_at_call 60; refine (geo8 _ p F C HC.out HBP.out.1 HBP.out.2.1 HBP.out.2.2).mono ?_; rintro e u1 ⟨rfl, b1⟩; have HB1 := hide b1; clear b1))
  have HS0 : Hid (CS w (u1.alloc (.cells #[.int .i64 8, .int .i64 4, .int .i64 1] 23)) u1.heap.size (.slice none 0 0) []) := ⟨below_trans HB1.out (below_alloc _ _), ⟨World.ownsRow_nil _ _ _ _, fun r hr => by cases hr⟩, alloc_new u1 _, HB1.out.size⟩
  generalize hU : u1.alloc (.cells #[.int .i64 8, .int .i64 4, .int .i64 1] 23) = U at HS0 ⊢
  generalize hb4 : u1.heap.size = b4 at HS0 ⊢
  clear hU hb4 HB1
  go_wp2
  go_loopw [3, 5] (fun s3 s5 wr => ∃ (i : Nat) (rs : List Rw), i ≤ 8 ∧ s5 = .int .i64 i ∧ Hid (CS w wr b4 s3 rs) ∧ Hid (rs.map Rw.z = tbl C (i * 4))) (fun _ s5 _ => 8 - (intOf s5).toNat)
  case atStart => exact ⟨0, [], by omega, rfl, HS0, rfl⟩
  case round =>
    obtain ⟨i, rs, hi, rfl, HI, HT⟩ := hrel
    clear HS0
    obtain ⟨y0, y1, y2⟩ := cells3 HI.out.bx
    by_cases hlt : i < 8
    · have dm : decide ((i : Int) < 8) = true := decide_eq_true (by omega)
      have i1 : (i : Int) < 8 := by omega
      obtain ⟨wo, hwo⟩ : ∃ wo, wo = wr := ⟨_, rfl⟩
      subst hwo
      go_wp2
      clear y0 y1 y2
      go_loopw [3, 6] (fun s3 s6 wr => ∃ (k : Nat) (rs : List Rw), k ≤ 4 ∧ s6 = .int .i64 k ∧ Hid (CS w wr b4 s3 rs) ∧ Hid (rs.map Rw.z = tbl C (i * 4 + k))) (fun _ s6 _ => 4 - (intOf s6).toNat)
      case atStart => exact ⟨0, rs, by omega, rfl, HI, HT⟩
      case round =>
        clear HI HT
        obtain ⟨k, qs, hk, rfl, HJ, HQ⟩ := hrel
        obtain ⟨y0, y1, y2⟩ := cells3 HJ.out.bx
        by_cases hkt : k < 4
        · have dk : decide ((k : Int) < 4) = true := decide_eq_true (by omega)
          have HQL : Hid (qs.length = i * 4 + k) := by
            have h9 := congrArg List.length HQ.out
            unfold tbl at h9
            simp at h9
            exact h9
          go_wp2_with (first
            | (go_at_call 28; refine (bits_any _ p F C (HC.out.below HJ.out.bel) HOK.out HD.out i k (by rw [HBP.out.1]; exact hlt) (by rw [HBP.out.2.1]; exact hkt)).mono ?_; rintro e u4 ⟨gb, cb, rfl, ob, bb⟩; rw [HPG.out] at ob ⊢; have HJ4 := hide (HJ.out.below bb); have HO4 := hide (own_base ob HJ.out.bel.size); clear ob bb y0 y1 y2)
            | (at_builtin; refine wpList_append_lies _ rfl _ _ 61 rfl w.heap.size 24 i0 (.slice none 0 0) 1 24 Try.underlying61 hi0 hz0 hz1 hz2 rfl (by decide) _ qs.length _ rfl (HJ4.out.below (below_alloc _ _)).cl.own ⟨u4.heap.size, 0, none⟩ 1 1 [(Rw.mk gb cb (readL C i k)).val] rfl rfl (news_row _ _) (by simp [Value.oneCell', Rw.val]) (by omega) (by have := HQL.out; simp [maxLen]; omega) (by have := HQL.out; omega) (by have := HJ4.out.bel.size; simp; omega) (u4.heap.size + 1) (by simp) ?_; intro g1 c1 w1 ow1 gr1 li1 _; have HA5 := hide (HJ4.out.app (r := Rw.mk gb cb (readL C i k)) HO4.out ow1 gr1); clear ow1 gr1 li1))
          go_roundw
          case rel => exact ⟨k + 1, qs ++ [Rw.mk gb cb (readL C i k)], by omega, by go_num, HA5, by show List.map Rw.z _ = _; rw [List.map_append, HQ.out, tbl_succ C i k hkt]; rfl⟩
          case measure => simp [intOf]; omega
        · have dk : decide ((k : Int) < 4) = false := decide_eq_false (by omega)
          have ek : k = 4 := by omega
          subst ek
          go_wp2
          go_roundw
          case rel =>
            have HE : ∃ (i' : Nat) (rs : List Rw), i' ≤ 8 ∧ Value.int .i64 ((i : Int) + 1) = .int .i64 i' ∧ Hid (CS w wr b4 u3 rs) ∧ Hid (rs.map Rw.z = tbl C (i' * 4)) := ⟨i + 1, qs, by omega, by go_num, HJ, by rw [show (i + 1) * 4 = i * 4 + 4 by omega]; exact HQ⟩
            first | exact HE | ((repeat apply Exists.intro); exact ⟨HE, rfl⟩) | (exact ⟨i + 1, qs, by omega, by go_num, HJ, by rw [show (i + 1) * 4 = i * 4 + 4 by omega]; exact HQ⟩) | ((repeat apply Exists.intro); exact ⟨⟨i + 1, qs, by omega, by go_num, HJ, by rw [show (i + 1) * 4 = i * 4 + 4 by omega]; exact HQ⟩, rfl⟩)
          case measure => simp [intOf]; omega
    · have dm : decide ((i : Int) < 8) = false := decide_eq_false (by omega)
      have ei : i = 8 := by omega
      subst ei
      go_wp2
      go_ret
      exact ⟨_, rs, rfl, HI.out.cl, HT.out, HI.out.bel⟩
end Go.Proofs.Ytadlkikjfonkgaa
